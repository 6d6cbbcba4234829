/-
  WAL: load, and Open, of a disk with records on it.
-/
import Derived.Test.YtcbbklbjfknnlaaDoorWzg
import Derived.Test.YtcbbklbjfknnlaaDoorWt
import Derived.Deep.LoopGhost
set_option linter.unusedVariables false
set_option linter.unusedSimpArgs false
set_option maxRecDepth 100000
namespace Go.Proofs.YtcbbklbjfknnlaaDoor
open Go.RowKit Go.Shelf

/-- What load has found. -/
structure LoadI (w : World) (lb db : Nat) (rv : Value) (H : Hd) (L : Ls) (R : List Rc) (u : Nat) (wr : World) : Prop where
  lk : Lk wr lb db rv { h := H, used := u, ours := L.ours, waits := L.waits, down := L.down }
  rof : Rof wr rv R
  rvn : ∀ k, blk rv = some k → w.heap.size ≤ k
  rn : ∀ r ∈ R, r.b ≠ [] → ∀ a, r.a = some a → w.heap.size ≤ a.block ∧ blk rv ≠ some a.block
  keep : Keep (fun k => k = lb) w wr

theorem load_cap {w wr w2 : World} {lb db u : Nat} {rv : Value} {H : Hd} {L : Ls} {R : List Rc} (hI : LoadI w lb db rv H L R u wr) (hb : Below wr.heap.size wr w2) (r : Rc) (hrd : Rd w2 (rcv r) r.b) (hra : ∀ a, r.a = some a → wr.heap.size ≤ a.block ∧ a.block < w2.heap.size) (hlb : lb < w.heap.size) (hR : R.length + 1 ≤ 1000000) (z : Nat) :
    ∃ po pn pc w5, (Builtin.append_ #[22, 22] 22 #[rv, .slice (some ⟨w2.heap.size, 0, none⟩) 1 1]).run Tryd.prog (w2.alloc (.cells #[rcv r] 32)) = .ok (.slice po pn pc) w5 ∧
      (w2.cell? ⟨lb, 5, none⟩ = some rv ∧ w2.cell? ⟨lb, 6, none⟩ = some (.int .i64 (u : Int))) ∧ ((w2.alloc (.cells #[rcv r] 32)).cell? ⟨lb, 5, none⟩ = some rv ∧ (w2.alloc (.cells #[rcv r] 32)).cell? ⟨lb, 6, none⟩ = some (.int .i64 (u : Int))) ∧
      (w5.cell? ⟨lb, 5, none⟩ = some rv ∧ w5.cell? ⟨lb, 6, none⟩ = some (.int .i64 (u : Int)) ∧ w5.frozen? ⟨lb, 5, none⟩ = false ∧ w5.frozen? ⟨lb, 6, none⟩ = false) ∧
      Hid (LoadI w lb db (.slice po pn pc) H L (R ++ [r]) z ((w5.setCell ⟨lb, 5, none⟩ (.slice po pn pc)).setCell ⟨lb, 6, none⟩ (.int .i64 (z : Int)))) := by
  have hba : Below w2.heap.size w2 (w2.alloc (.cells #[rcv r] 32)) := (Below.refl _ _).alloc (Nat.le_refl _) _
  have hb3 : Below wr.heap.size wr (w2.alloc (.cells #[rcv r] 32)) := hb.trans (hba.mono hb.size)
  have hl2 := hI.lk.old hb
  have hl3 := hI.lk.old hb3
  have hq : (w2.alloc (.cells #[rcv r] 32)).cell? ⟨w2.heap.size, 0, none⟩ = some (rcv r) := by
    unfold World.cell?
    rw [heap_alloc_new]
    rfl
  have hws := hI.keep.size
  have hrv := hI.rof.lt
  have hoff : ∀ x ∈ R ++ [r], x.b ≠ [] → ∀ a, x.a = some a → blk rv ≠ some a.block := fun x hx hne a ha => by
    rcases List.mem_append.1 hx with hx | hx
    · exact (hI.rn x hx hne a ha).2
    · obtain rfl := List.mem_singleton.1 hx
      intro e
      have := hrv _ e
      have := (hra a ha).1
      omega
  obtain ⟨v', w5, hrun, hR5, hk, hv⟩ := (hI.rof.old hb3).app r (hrd.old hba) w2.heap.size hq hR hoff 22
  obtain ⟨po, pc, rfl, -⟩ := hR5.form
  have hlr : ∀ k, blk rv = some k → k ≠ lb := fun k hk => by have := hI.rvn k hk; omega
  have hl5 : Lk w5 lb db rv { h := H, used := u, ours := L.ours, waits := L.waits, down := L.down } := hl3.kept hk (fun e => hlr lb e rfl)
  have hl6 : Lk ((w5.setCell ⟨lb, 5, none⟩ (.slice po (R ++ [r]).length pc)).setCell ⟨lb, 6, none⟩ (.int .i64 (z : Int))) lb db (.slice po (R ++ [r]).length pc) { h := H, used := z, ours := L.ours, waits := L.waits, down := L.down } := by
    have h9 := hl5
    unfold Lk at h9
    have h1 := set_at (k := 5) (.slice po (R ++ [r]).length pc) h9
    simp only [List.setIfInBounds_toArray, List.set_cons_succ, List.set_cons_zero] at h1
    have h2 := set_at (k := 6) (.int .i64 (z : Int)) h1
    simp only [List.setIfInBounds_toArray, List.set_cons_succ, List.set_cons_zero] at h2
    exact h2
  have hkL : Keep (fun k => k = lb) w5 ((w5.setCell ⟨lb, 5, none⟩ (.slice po (R ++ [r]).length pc)).setCell ⟨lb, 6, none⟩ (.int .i64 (z : Int))) := (Keep.set (X := fun k => k = lb) w5 ⟨lb, 5, none⟩ _ rfl).trans (Keep.set (X := fun k => k = lb) _ ⟨lb, 6, none⟩ _ rfl)
  have hs3 : (w2.alloc (.cells #[rcv r] 32)).heap.size = w2.heap.size + 1 := by simp
  have hvn : ∀ k, blk (.slice po (R ++ [r]).length pc) = some k → w.heap.size ≤ k := fun k hk9 => by
    rcases hv k hk9 with e | e
    · exact hI.rvn k e
    · have := hb.size
      omega
  have hrn : ∀ q ∈ R ++ [r], q.b ≠ [] → ∀ a, q.a = some a → w.heap.size ≤ a.block ∧ blk (.slice po (R ++ [r]).length pc) ≠ some a.block := fun q hq hne a ha => by
    rcases List.mem_append.1 hq with hq | hq
    · refine ⟨(hI.rn q hq hne a ha).1, fun e => ?_⟩
      rcases hv _ e with e | e
      · exact (hI.rn q hq hne a ha).2 e
      · have := rd_block (hI.rof.each q hq) hne a ha
        have := hb.size
        omega
    · obtain rfl := List.mem_singleton.1 hq
      refine ⟨by have := (hra a ha).1; omega, fun e => ?_⟩
      rcases hv _ e with e | e
      · have := hrv _ e
        have := (hra a ha).1
        omega
      · have := (hra a ha).2
        omega
  refine ⟨po, _, pc, w5, hrun, ⟨hl2.cells.2.2.2.2.2.1, hl2.cells.2.2.2.2.2.2.1⟩, ⟨hl3.cells.2.2.2.2.2.1, hl3.cells.2.2.2.2.2.2.1⟩, ⟨hl5.cells.2.2.2.2.2.1, hl5.cells.2.2.2.2.2.2.1, hl5.soft 5, hl5.soft 6⟩, hid ⟨hl6, hR5.kept hkL (fun k hk9 e => by have := hvn k hk9; omega) (fun q hq hne a ha e => by have := (hrn q hq hne a ha).1; omega), hvn, hrn, ?_⟩⟩
  refine hI.keep.trans2 (Y := fun k => blk rv = some k ∨ k = lb) ((Keep.of_below hb3).trans ((hk.mono (fun _ _ e => .inl e)).trans (hkL.mono (fun _ _ e => .inr e)))) (fun i e => ?_)
  rcases e with e | e
  · exact .inr (hI.rvn i e)
  · exact .inl e

/-- Where the k-th record begins. -/
def offs (Bs : List (List UInt8)) (k : Nat) : Nat := ((Bs.take k).map fun b => secs b.length).sum
theorem offs_next {Bs : List (List UInt8)} {k : Nat} {l : List UInt8} (h : Bs[k]? = some l) : offs Bs (k + 1) = offs Bs k + secs l.length := by
  unfold offs
  rw [List.take_add_one, h]
  simp
theorem offs_le (Bs : List (List UInt8)) (k : Nat) : offs Bs k ≤ offs Bs Bs.length := by
  unfold offs
  rw [List.take_length]
  conv => rhs; rw [← List.take_append_drop k Bs]
  rw [List.map_append, List.sum_append]
  omega

section
variable {base : Nat} {w : World} {lb db sb n : Nat} {vw rv : Value} {S : List (List UInt8)} {Q : List Wr} {dn : Bool} {lf : Nat} {L : Ls}

/-- The records are on the disk, and nothing behind them. -/
structure Ond (n : Nat) (S : List (List UInt8)) (H : Hd) (Bs : List (List UInt8)) : Prop where
  pie : ∀ k l, Bs[k]? = some l → ∀ j, j < secs l.length → pieceM S n H (offs Bs k + j) = some (bodyP (pc (recB l) j))
  none : Nor n S H (offs Bs Bs.length)
  short : ∀ l ∈ Bs, l.length ≤ 32768
  few : Bs.length ≤ 90000
  room : offs Bs Bs.length ≤ 65536

/-- What load comes to. -/
def LoadA (lb db : Nat) (H : Hd) (L : Ls) (Bs : List (List UInt8)) (w w' : World) : Prop := ∃ rv R, R.map (·.b) = Bs ∧ LoadI w lb db rv H L R (offs Bs Bs.length) w'

set_option maxHeartbeats 16000000 in
theorem load_some (h : Lk w lb db (.slice none 0 0) L) (hu : L.used = 0) (hD : Dk base w db sb n vw S Q false lf) (hlb : ¬ DX db sb vw lb) (hk : (newK S L.h 2).Ok) (hn : 3 ≤ n) (ht : ∀ j, j ≤ 131072 → nmb n (newK S L.h 2) j < 18446744073709551616) (Bs : List (List UInt8)) (ho : Ond n S (newK S L.h 2) Bs) :
    Calls Tryd.prog 24 #[.pointer (some ⟨lb, 0, none⟩)] w (fun e w' => e = .returned .nilIface ∧ LoadA lb db (newK S L.h 2) L Bs w w') := by
  have CN := hid (newest_ok h hD hlb (by omega))
  have HD := hid hD
  have HN := hid hlb
  have HH := hid h
  have HLT : Hid (lb < w.heap.size) := h.lt
  generalize newK S L.h 2 = H at *
  have HO := hid ho
  have HK := hid hk
  have HT := hid ht
  clear h hD hlb ho hk ht
  go_enter Tryd.func24, Tryd.ntmps24
  go_wp2_with (first | (go_at_call 37; refine CN.out.mono ?_))
  rintro e w2 ⟨rfl, hL2, hK2⟩
  have HI2 : Hid (LoadI w lb db (.slice none 0 0) H L [] (offs Bs 0) w2) := by
    have e0 : offs Bs 0 = L.used := by rw [hu]; simp [offs]
    rw [e0]
    exact ⟨hL2, Rof.nil _, (fun k hk => by cases hk), (fun r hr => by cases hr), hK2⟩
  have HU := hid hu
  clear hL2 hK2 hu
  go_wp2_with fail
  go_loopg [] (Bs.length + 1) (fun gk wr => ∃ k R rv, k + gk = Bs.length + 1 ∧ k ≤ Bs.length ∧ Hid (LoadI w lb db rv H L R (offs Bs k) wr ∧ R.map (·.b) = Bs.take k))
  case atStart => exact ⟨0, [], _, by omega, by omega, HI2.out, by simp⟩
  case round =>
    obtain ⟨k, R, rv, hkg, hkB, HI⟩ := hrel
    have HDr : Hid (Dk base wr db sb n vw S Q false lf) := HD.out.kept HI.out.1.keep (fun j hj e => HN.out (by rw [← e]; exact hj))
    obtain ⟨c0, c1, c2, c3, c4, c5, c6, -⟩ := HI.out.1.lk.cells
    obtain ⟨u, hu⟩ : ∃ u, u = offs Bs k := ⟨_, rfl⟩
    simp only at c6
    rw [← hu] at c6
    by_cases hlt : k < Bs.length
    · have hv := List.getElem?_eq_getElem hlt
      generalize Bs[k]'_ = l at *
      have hl := HO.out.short l (List.mem_of_getElem? hv)
      have hon := offs_next hv
      have hle := offs_le Bs (k + 1)
      have hro := HO.out.room
      have CR0 := record_some HI.out.1.lk HDr.out HK.out (offs Bs k) l hl (by omega) hn HT.out (HO.out.pie k l hv)
      rw [← hu] at CR0 hon
      have CR := hid CR0
      obtain ⟨z, hz⟩ : ∃ z, z = offs Bs (k + 1) := ⟨_, rfl⟩
      rw [← hz] at hon hle
      have hl4 : l.length ≤ 140737488355328 := by omega
      have hzw : IntKind.i64.wrap ((u : Int) + (secs l.length : Int)) = (z : Int) := by rw [IntKind.wrap_i64]; omega
      have HV := hid hv
      have HZ := hid hz
      have HFEW := hid HO.out.few
      obtain ⟨gk1, hgk1⟩ : ∃ gk1, gk1 = gk - 1 := ⟨_, rfl⟩
      have HRL : Hid (R.length + 1 ≤ 1000000) := by
        have h1 := congrArg List.length HI.out.2
        have h2 := HO.out.few
        simp at h1
        show _ ≤ _
        omega
      have HU2 := hid hu
      clear CR0 hv hz hu hon hle hro hl
      go_wp2_with (first | (go_at_call 38; refine CR.out.mono ?_))
      rintro e w3 ⟨g, o, c, rfl, hrd, hg1, hg2, hb3⟩
      have heq := fun W => Lib.run_eql_slice_nil (P := Tryd.prog) W 32 5 (some ⟨g, o, none⟩) l.length c 0 0 Tryd.underlying32
      have HRD := hid hrd
      have HG := hid (And.intro hg1 hg2)
      have HB3 := hid hb3
      clear hrd hg1 hg2 hb3 c0 c1 c2 c3 c4 c5 c6
      go_upto_region 7 with fail
      refine wp_region_noPanic ?_
      refine wp_region_held_drew (S := fun _ => Hid True) (by kernel_rfl) (hid trivial) (fun hHeld => ?_)
      have HB3d : Hid (Below wr.heap.size wr w3.drew) := HB3.out.trans ((Below.refl _ _).drew)
      have HRDd : Hid (Rd w3.drew (.slice (some ⟨g, o, none⟩) l.length c) l) := HRD.out
      have HGd : Hid (wr.heap.size ≤ g ∧ g < w3.drew.heap.size) := HG.out
      generalize w3.drew = W2 at *
      obtain ⟨po, pn, pc, w5, hrun, ⟨t5, t6⟩, ⟨al5, al6⟩, ⟨u5, u6, g5, g6⟩, HFIN⟩ := load_cap HI.out.1 HB3d.out ⟨some ⟨g, o, none⟩, c, l⟩ HRDd.out (fun a ha => by cases ha; exact HGd.out) HLT.out HRL.out z
      simp only [← HU2.out] at t6 al6 u6
      have HNEXT : Hid (Hid (LoadI w lb db (.slice po pn pc) H L (R ++ [⟨some ⟨g, o, none⟩, c, l⟩]) (offs Bs (k + 1)) ((w5.setCell ⟨lb, 5, none⟩ (.slice po pn pc)).setCell ⟨lb, 6, none⟩ (.int .i64 (z : Int))) ∧ (R ++ [(⟨some ⟨g, o, none⟩, c, l⟩ : Rc)]).map (·.b) = Bs.take (k + 1))) := by
        refine hid (hid ⟨by rw [← HZ.out]; exact HFIN.out, ?_⟩)
        rw [List.map_append, HI.out.2, List.take_add_one, HV.out]
        rfl
      clear HFIN
      unfold rcv at hrun al5 al6
      simp only at hrun al5 al6
      refine wpAnyH_take (i := 0) (v := (.pointer (some ⟨lb, 0, none⟩))) rfl (by kernel_rfl) (by kernel_rfl) (by kernel_rfl) (fun _ _ _ h => (show False from h).elim) ?xyZ1 ?xhZ1 ?xrZ1
      case xhZ1 => exact hHeld
      case xyZ1 => exact Or.inl ⟨by rfl, fun W9 hW => by clear hHeld; simp only [List.getElem_toArray, List.getElem_cons_succ, List.getElem_cons_zero]; go_simp⟩
      simp only [Act.put, List.getElem_toArray, List.getElem_cons_succ, List.getElem_cons_zero, List.setIfInBounds_toArray, List.set_cons_succ, List.set_cons_zero]
      refine wpAnyH_take (i := 1) (v := (.pointer (some ⟨lb, 0, none⟩))) rfl (by kernel_rfl) (by kernel_rfl) (by kernel_rfl) (fun _ _ _ h => (show False from h).elim) ?xyZ2 ?xhZ2 ?xrZ2
      case xhZ2 => exact hHeld
      case xyZ2 => exact Or.inl ⟨by rfl, fun W9 hW => by clear hHeld; simp only [List.getElem_toArray, List.getElem_cons_succ, List.getElem_cons_zero]; go_simp⟩
      simp only [Act.put, List.getElem_toArray, List.getElem_cons_succ, List.getElem_cons_zero, List.setIfInBounds_toArray, List.set_cons_succ, List.set_cons_zero]
      refine wpAnyH_take (i := 2) (v := (.pointer (some ⟨lb, 0, none⟩))) rfl (by kernel_rfl) (by kernel_rfl) (by kernel_rfl) (fun _ _ _ h => (show False from h).elim) ?xyZ3 ?xhZ3 ?xrZ3
      case xhZ3 => exact hHeld
      case xyZ3 => exact Or.inl ⟨by rfl, fun W9 hW => by clear hHeld; simp only [List.getElem_toArray, List.getElem_cons_succ, List.getElem_cons_zero]; go_simp⟩
      simp only [Act.put, List.getElem_toArray, List.getElem_cons_succ, List.getElem_cons_zero, List.setIfInBounds_toArray, List.set_cons_succ, List.set_cons_zero]
      refine wpAnyH_take (i := 3) (v := (.pointer (some ⟨lb, 0, none⟩))) rfl (by kernel_rfl) (by kernel_rfl) (by kernel_rfl) (fun _ _ _ h => (show False from h).elim) ?xyZ4 ?xhZ4 ?xrZ4
      case xhZ4 => exact hHeld
      case xyZ4 => exact Or.inl ⟨by rfl, fun W9 hW => by clear hHeld; simp only [List.getElem_toArray, List.getElem_cons_succ, List.getElem_cons_zero]; go_simp⟩
      simp only [Act.put, List.getElem_toArray, List.getElem_cons_succ, List.getElem_cons_zero, List.setIfInBounds_toArray, List.set_cons_succ, List.set_cons_zero]
      refine wpAnyH_take (i := 4) (v := (.pointer (some ⟨lb, 5, none⟩))) rfl (by kernel_rfl) (by kernel_rfl) (by kernel_rfl) (fun _ _ _ h => (show False from h).elim) ?xyZ5 ?xhZ5 ?xrZ5
      case xhZ5 => exact hHeld
      case xyZ5 => exact Or.inl ⟨by rfl, fun W9 hW => by clear hHeld; simp only [List.getElem_toArray, List.getElem_cons_succ, List.getElem_cons_zero]; go_simp⟩
      simp only [Act.put, List.getElem_toArray, List.getElem_cons_succ, List.getElem_cons_zero, List.setIfInBounds_toArray, List.set_cons_succ, List.set_cons_zero]
      refine wpAnyH_take (i := 6) (v := (.slice (some ⟨g, o, none⟩) l.length c)) rfl (by kernel_rfl) (by kernel_rfl) (by kernel_rfl) (fun _ _ _ h => (show False from h).elim) ?xyZ6 ?xhZ6 ?xrZ6
      case xhZ6 => exact hHeld
      case xyZ6 => exact Or.inl ⟨by rfl, fun W9 hW => by clear hHeld; simp only [List.getElem_toArray, List.getElem_cons_succ, List.getElem_cons_zero]; go_simp⟩
      simp only [Act.put, List.getElem_toArray, List.getElem_cons_succ, List.getElem_cons_zero, List.setIfInBounds_toArray, List.set_cons_succ, List.set_cons_zero]
      refine wpAnyH_take (i := 9) (v := (.pointer (some ⟨lb, 0, none⟩))) rfl (by kernel_rfl) (by kernel_rfl) (by kernel_rfl) (fun _ _ _ h => (show False from h).elim) ?xyZ7 ?xhZ7 ?xrZ7
      case xhZ7 => exact hHeld
      case xyZ7 => exact Or.inl ⟨by rfl, fun W9 hW => by clear hHeld; simp only [List.getElem_toArray, List.getElem_cons_succ, List.getElem_cons_zero]; go_simp⟩
      simp only [Act.put, List.getElem_toArray, List.getElem_cons_succ, List.getElem_cons_zero, List.setIfInBounds_toArray, List.set_cons_succ, List.set_cons_zero]
      refine wpAnyH_take (i := 10) (v := (.pointer (some ⟨lb, 0, none⟩))) rfl (by kernel_rfl) (by kernel_rfl) (by kernel_rfl) (fun _ _ _ h => (show False from h).elim) ?xyZ8 ?xhZ8 ?xrZ8
      case xhZ8 => exact hHeld
      case xyZ8 => exact Or.inl ⟨by rfl, fun W9 hW => by clear hHeld; simp only [List.getElem_toArray, List.getElem_cons_succ, List.getElem_cons_zero]; go_simp⟩
      simp only [Act.put, List.getElem_toArray, List.getElem_cons_succ, List.getElem_cons_zero, List.setIfInBounds_toArray, List.set_cons_succ, List.set_cons_zero]
      refine wpAnyH_take (i := 11) (v := (.pointer (some ⟨lb, 6, none⟩))) rfl (by kernel_rfl) (by kernel_rfl) (by kernel_rfl) (fun _ _ _ h => (show False from h).elim) ?xyZ9 ?xhZ9 ?xrZ9
      case xhZ9 => exact hHeld
      case xyZ9 => exact Or.inl ⟨by rfl, fun W9 hW => by clear hHeld; simp only [List.getElem_toArray, List.getElem_cons_succ, List.getElem_cons_zero]; go_simp⟩
      simp only [Act.put, List.getElem_toArray, List.getElem_cons_succ, List.getElem_cons_zero, List.setIfInBounds_toArray, List.set_cons_succ, List.set_cons_zero]
      refine wpAnyH_take (i := 13) (v := (.slice (some ⟨g, o, none⟩) l.length c)) rfl (by kernel_rfl) (by kernel_rfl) (by kernel_rfl) (fun _ _ _ h => (show False from h).elim) ?xyZ10 ?xhZ10 ?xrZ10
      case xhZ10 => exact hHeld
      case xyZ10 => exact Or.inl ⟨by rfl, fun W9 hW => by clear hHeld; simp only [List.getElem_toArray, List.getElem_cons_succ, List.getElem_cons_zero]; go_simp⟩
      simp only [Act.put, List.getElem_toArray, List.getElem_cons_succ, List.getElem_cons_zero, List.setIfInBounds_toArray, List.set_cons_succ, List.set_cons_zero]
      refine wpAnyH_ready (rs := [5, 7, 12]) (by kernel_rfl) (by simp) ?_
      refine AllReadyH.cons rfl (fun K hK => ?_) (AllReadyH.cons rfl (fun K hK => ?_) (AllReadyH.cons rfl (fun K hK => ?_) AllReadyH.nil))
      · go_simp
        refine hK.out _ _ (hid trivial) (fun hHeld => ?_)
        clear hK K
        refine wpAnyH_ready (rs := [7, 12]) (by kernel_rfl) (by simp) ?_
        refine AllReadyH.cons rfl (fun K hK => ?_) (AllReadyH.cons rfl (fun K hK => ?_) AllReadyH.nil)
        · go_simp
          refine hK.out _ _ (hid trivial) (fun hHeld => ?_)
          clear hK K
          refine wpAnyH_ready (rs := [8, 12]) (by kernel_rfl) (by simp) ?_
          refine AllReadyH.cons rfl (fun K hK => ?_) (AllReadyH.cons rfl (fun K hK => ?_) AllReadyH.nil)
          · refine step_known (.tmp 32) (.tmp 34) 22 (by rfl) (by rfl) _ _ _ (by rfl) (by rfl) hrun (by first | rfl | (simp [Region.wanted, yielded]; done)) ?_
            refine hK.out _ _ (hid trivial) (fun hHeld => ?_)
            clear hK K
            simp only [Act.put, List.getElem_toArray, List.getElem_cons_succ, List.getElem_cons_zero, List.setIfInBounds_toArray, List.set_cons_succ, List.set_cons_zero]
            refine wpAnyH_ready (rs := [12, 14]) (by kernel_rfl) (by simp) ?_
            refine AllReadyH.cons rfl (fun K hK => ?_) (AllReadyH.cons rfl (fun K hK => ?_) AllReadyH.nil)
            · go_simp
              refine hK.out _ _ (hid trivial) (fun hHeld => ?_)
              clear hK K
              refine wpAnyH_ready (rs := [14]) (by kernel_rfl) (by simp) ?_
              refine AllReadyH.cons rfl (fun K hK => ?_) AllReadyH.nil
              go_simp
              go_wp2_with (first | (go_at_call 27; refine (sectors_any _ _ _ _ hl4).mono ?_; rintro e w9 ⟨rfl, rfl⟩))
              refine hK.out _ _ (hid trivial) (fun hHeld => ?_)
              clear hK K
              refine wpAnyH_take (i := 15) (v := (.int .i64 (z : Int))) rfl (by kernel_rfl) (by kernel_rfl) (by kernel_rfl) (fun _ _ _ h => (show False from h).elim) ?xyZ11 ?xhZ11 ?xrZ11
              case xhZ11 => exact hHeld
              case xyZ11 => exact Or.inl ⟨by rfl, fun W9 hW => by clear hHeld; simp only [List.getElem_toArray, List.getElem_cons_succ, List.getElem_cons_zero]; go_simp⟩
              simp only [Act.put, List.getElem_toArray, List.getElem_cons_succ, List.getElem_cons_zero, List.setIfInBounds_toArray, List.set_cons_succ, List.set_cons_zero]
              refine wpAnyH_take (i := 16) (v := (.pointer (some ⟨lb, 0, none⟩))) rfl (by kernel_rfl) (by kernel_rfl) (by kernel_rfl) (fun _ _ _ h => (show False from h).elim) ?xyZ12 ?xhZ12 ?xrZ12
              case xhZ12 => exact hHeld
              case xyZ12 => exact Or.inl ⟨by rfl, fun W9 hW => by clear hHeld; simp only [List.getElem_toArray, List.getElem_cons_succ, List.getElem_cons_zero]; go_simp⟩
              simp only [Act.put, List.getElem_toArray, List.getElem_cons_succ, List.getElem_cons_zero, List.setIfInBounds_toArray, List.set_cons_succ, List.set_cons_zero]
              refine wpAnyH_take (i := 17) (v := (.pointer (some ⟨lb, 5, none⟩))) rfl (by kernel_rfl) (by kernel_rfl) (by kernel_rfl) (fun _ _ _ h => (show False from h).elim) ?xyZ13 ?xhZ13 ?xrZ13
              case xhZ13 => exact hHeld
              case xyZ13 => exact Or.inl ⟨by rfl, fun W9 hW => by clear hHeld; simp only [List.getElem_toArray, List.getElem_cons_succ, List.getElem_cons_zero]; go_simp⟩
              simp only [Act.put, List.getElem_toArray, List.getElem_cons_succ, List.getElem_cons_zero, List.setIfInBounds_toArray, List.set_cons_succ, List.set_cons_zero]
              refine wpAnyH_ready (rs := [18]) (by kernel_rfl) (by simp) ?_
              refine AllReadyH.cons rfl (fun K hK => ?_) AllReadyH.nil
              go_simp
              refine hK.out _ _ (hid trivial) (fun hHeld => ?_)
              clear hK K
              refine wpAnyH_take (i := 19) (v := (.pointer (some ⟨lb, 0, none⟩))) rfl (by kernel_rfl) (by kernel_rfl) (by kernel_rfl) (fun _ _ _ h => (show False from h).elim) ?xyZ14 ?xhZ14 ?xrZ14
              case xhZ14 => exact hHeld
              case xyZ14 => exact Or.inl ⟨by rfl, fun W9 hW => by clear hHeld; simp only [List.getElem_toArray, List.getElem_cons_succ, List.getElem_cons_zero]; go_simp⟩
              simp only [Act.put, List.getElem_toArray, List.getElem_cons_succ, List.getElem_cons_zero, List.setIfInBounds_toArray, List.set_cons_succ, List.set_cons_zero]
              refine wpAnyH_take (i := 20) (v := (.pointer (some ⟨lb, 6, none⟩))) rfl (by kernel_rfl) (by kernel_rfl) (by kernel_rfl) (fun _ _ _ h => (show False from h).elim) ?xyZ15 ?xhZ15 ?xrZ15
              case xhZ15 => exact hHeld
              case xyZ15 => exact Or.inl ⟨by rfl, fun W9 hW => by clear hHeld; simp only [List.getElem_toArray, List.getElem_cons_succ, List.getElem_cons_zero]; go_simp⟩
              simp only [Act.put, List.getElem_toArray, List.getElem_cons_succ, List.getElem_cons_zero, List.setIfInBounds_toArray, List.set_cons_succ, List.set_cons_zero]
              refine wpAnyH_ready (rs := [21]) (by kernel_rfl) (by simp) ?_
              refine AllReadyH.cons rfl (fun K hK => ?_) AllReadyH.nil
              go_simp
              refine hK.out _ _ (hid trivial) (fun hHeld => ?_)
              clear hK K
              refine wpAnyH_done (by kernel_rfl) ?_ _
              refine NoPanic.normal ?_
              go_wp2_with fail
              go_roundg gk1
              case measure => omega
              case rel => exact ⟨k + 1, _, _, by omega, by omega, HNEXT.out⟩
            · go_simp
              go_wp2_with (first | (go_at_call 27; refine (sectors_any _ _ _ _ hl4).mono ?_; rintro e w9 ⟨rfl, rfl⟩))
              refine hK.out _ _ (hid trivial) (fun hHeld => ?_)
              clear hK K
              refine wpAnyH_ready (rs := [12]) (by kernel_rfl) (by simp) ?_
              refine AllReadyH.cons rfl (fun K hK => ?_) AllReadyH.nil
              go_simp
              refine hK.out _ _ (hid trivial) (fun hHeld => ?_)
              clear hK K
              refine wpAnyH_take (i := 15) (v := (.int .i64 (z : Int))) rfl (by kernel_rfl) (by kernel_rfl) (by kernel_rfl) (fun _ _ _ h => (show False from h).elim) ?xyZ16 ?xhZ16 ?xrZ16
              case xhZ16 => exact hHeld
              case xyZ16 => exact Or.inl ⟨by rfl, fun W9 hW => by clear hHeld; simp only [List.getElem_toArray, List.getElem_cons_succ, List.getElem_cons_zero]; go_simp⟩
              simp only [Act.put, List.getElem_toArray, List.getElem_cons_succ, List.getElem_cons_zero, List.setIfInBounds_toArray, List.set_cons_succ, List.set_cons_zero]
              refine wpAnyH_take (i := 16) (v := (.pointer (some ⟨lb, 0, none⟩))) rfl (by kernel_rfl) (by kernel_rfl) (by kernel_rfl) (fun _ _ _ h => (show False from h).elim) ?xyZ17 ?xhZ17 ?xrZ17
              case xhZ17 => exact hHeld
              case xyZ17 => exact Or.inl ⟨by rfl, fun W9 hW => by clear hHeld; simp only [List.getElem_toArray, List.getElem_cons_succ, List.getElem_cons_zero]; go_simp⟩
              simp only [Act.put, List.getElem_toArray, List.getElem_cons_succ, List.getElem_cons_zero, List.setIfInBounds_toArray, List.set_cons_succ, List.set_cons_zero]
              refine wpAnyH_take (i := 17) (v := (.pointer (some ⟨lb, 5, none⟩))) rfl (by kernel_rfl) (by kernel_rfl) (by kernel_rfl) (fun _ _ _ h => (show False from h).elim) ?xyZ18 ?xhZ18 ?xrZ18
              case xhZ18 => exact hHeld
              case xyZ18 => exact Or.inl ⟨by rfl, fun W9 hW => by clear hHeld; simp only [List.getElem_toArray, List.getElem_cons_succ, List.getElem_cons_zero]; go_simp⟩
              simp only [Act.put, List.getElem_toArray, List.getElem_cons_succ, List.getElem_cons_zero, List.setIfInBounds_toArray, List.set_cons_succ, List.set_cons_zero]
              refine wpAnyH_ready (rs := [18]) (by kernel_rfl) (by simp) ?_
              refine AllReadyH.cons rfl (fun K hK => ?_) AllReadyH.nil
              go_simp
              refine hK.out _ _ (hid trivial) (fun hHeld => ?_)
              clear hK K
              refine wpAnyH_take (i := 19) (v := (.pointer (some ⟨lb, 0, none⟩))) rfl (by kernel_rfl) (by kernel_rfl) (by kernel_rfl) (fun _ _ _ h => (show False from h).elim) ?xyZ19 ?xhZ19 ?xrZ19
              case xhZ19 => exact hHeld
              case xyZ19 => exact Or.inl ⟨by rfl, fun W9 hW => by clear hHeld; simp only [List.getElem_toArray, List.getElem_cons_succ, List.getElem_cons_zero]; go_simp⟩
              simp only [Act.put, List.getElem_toArray, List.getElem_cons_succ, List.getElem_cons_zero, List.setIfInBounds_toArray, List.set_cons_succ, List.set_cons_zero]
              refine wpAnyH_take (i := 20) (v := (.pointer (some ⟨lb, 6, none⟩))) rfl (by kernel_rfl) (by kernel_rfl) (by kernel_rfl) (fun _ _ _ h => (show False from h).elim) ?xyZ20 ?xhZ20 ?xrZ20
              case xhZ20 => exact hHeld
              case xyZ20 => exact Or.inl ⟨by rfl, fun W9 hW => by clear hHeld; simp only [List.getElem_toArray, List.getElem_cons_succ, List.getElem_cons_zero]; go_simp⟩
              simp only [Act.put, List.getElem_toArray, List.getElem_cons_succ, List.getElem_cons_zero, List.setIfInBounds_toArray, List.set_cons_succ, List.set_cons_zero]
              refine wpAnyH_ready (rs := [21]) (by kernel_rfl) (by simp) ?_
              refine AllReadyH.cons rfl (fun K hK => ?_) AllReadyH.nil
              go_simp
              refine hK.out _ _ (hid trivial) (fun hHeld => ?_)
              clear hK K
              refine wpAnyH_done (by kernel_rfl) ?_ _
              refine NoPanic.normal ?_
              go_wp2_with fail
              go_roundg gk1
              case measure => omega
              case rel => exact ⟨k + 1, _, _, by omega, by omega, HNEXT.out⟩
          · go_simp
            refine hK.out _ _ (hid trivial) (fun hHeld => ?_)
            clear hK K
            refine wpAnyH_ready (rs := [8]) (by kernel_rfl) (by simp) ?_
            refine AllReadyH.cons rfl (fun K hK => ?_) AllReadyH.nil
            refine step_known (.tmp 32) (.tmp 34) 22 (by rfl) (by rfl) _ _ _ (by rfl) (by rfl) hrun (by first | rfl | (simp [Region.wanted, yielded]; done)) ?_
            refine hK.out _ _ (hid trivial) (fun hHeld => ?_)
            clear hK K
            simp only [Act.put, List.getElem_toArray, List.getElem_cons_succ, List.getElem_cons_zero, List.setIfInBounds_toArray, List.set_cons_succ, List.set_cons_zero]
            refine wpAnyH_ready (rs := [14]) (by kernel_rfl) (by simp) ?_
            refine AllReadyH.cons rfl (fun K hK => ?_) AllReadyH.nil
            go_simp
            go_wp2_with (first | (go_at_call 27; refine (sectors_any _ _ _ _ hl4).mono ?_; rintro e w9 ⟨rfl, rfl⟩))
            refine hK.out _ _ (hid trivial) (fun hHeld => ?_)
            clear hK K
            refine wpAnyH_take (i := 15) (v := (.int .i64 (z : Int))) rfl (by kernel_rfl) (by kernel_rfl) (by kernel_rfl) (fun _ _ _ h => (show False from h).elim) ?xyZ21 ?xhZ21 ?xrZ21
            case xhZ21 => exact hHeld
            case xyZ21 => exact Or.inl ⟨by rfl, fun W9 hW => by clear hHeld; simp only [List.getElem_toArray, List.getElem_cons_succ, List.getElem_cons_zero]; go_simp⟩
            simp only [Act.put, List.getElem_toArray, List.getElem_cons_succ, List.getElem_cons_zero, List.setIfInBounds_toArray, List.set_cons_succ, List.set_cons_zero]
            refine wpAnyH_take (i := 16) (v := (.pointer (some ⟨lb, 0, none⟩))) rfl (by kernel_rfl) (by kernel_rfl) (by kernel_rfl) (fun _ _ _ h => (show False from h).elim) ?xyZ22 ?xhZ22 ?xrZ22
            case xhZ22 => exact hHeld
            case xyZ22 => exact Or.inl ⟨by rfl, fun W9 hW => by clear hHeld; simp only [List.getElem_toArray, List.getElem_cons_succ, List.getElem_cons_zero]; go_simp⟩
            simp only [Act.put, List.getElem_toArray, List.getElem_cons_succ, List.getElem_cons_zero, List.setIfInBounds_toArray, List.set_cons_succ, List.set_cons_zero]
            refine wpAnyH_take (i := 17) (v := (.pointer (some ⟨lb, 5, none⟩))) rfl (by kernel_rfl) (by kernel_rfl) (by kernel_rfl) (fun _ _ _ h => (show False from h).elim) ?xyZ23 ?xhZ23 ?xrZ23
            case xhZ23 => exact hHeld
            case xyZ23 => exact Or.inl ⟨by rfl, fun W9 hW => by clear hHeld; simp only [List.getElem_toArray, List.getElem_cons_succ, List.getElem_cons_zero]; go_simp⟩
            simp only [Act.put, List.getElem_toArray, List.getElem_cons_succ, List.getElem_cons_zero, List.setIfInBounds_toArray, List.set_cons_succ, List.set_cons_zero]
            refine wpAnyH_ready (rs := [18]) (by kernel_rfl) (by simp) ?_
            refine AllReadyH.cons rfl (fun K hK => ?_) AllReadyH.nil
            go_simp
            refine hK.out _ _ (hid trivial) (fun hHeld => ?_)
            clear hK K
            refine wpAnyH_take (i := 19) (v := (.pointer (some ⟨lb, 0, none⟩))) rfl (by kernel_rfl) (by kernel_rfl) (by kernel_rfl) (fun _ _ _ h => (show False from h).elim) ?xyZ24 ?xhZ24 ?xrZ24
            case xhZ24 => exact hHeld
            case xyZ24 => exact Or.inl ⟨by rfl, fun W9 hW => by clear hHeld; simp only [List.getElem_toArray, List.getElem_cons_succ, List.getElem_cons_zero]; go_simp⟩
            simp only [Act.put, List.getElem_toArray, List.getElem_cons_succ, List.getElem_cons_zero, List.setIfInBounds_toArray, List.set_cons_succ, List.set_cons_zero]
            refine wpAnyH_take (i := 20) (v := (.pointer (some ⟨lb, 6, none⟩))) rfl (by kernel_rfl) (by kernel_rfl) (by kernel_rfl) (fun _ _ _ h => (show False from h).elim) ?xyZ25 ?xhZ25 ?xrZ25
            case xhZ25 => exact hHeld
            case xyZ25 => exact Or.inl ⟨by rfl, fun W9 hW => by clear hHeld; simp only [List.getElem_toArray, List.getElem_cons_succ, List.getElem_cons_zero]; go_simp⟩
            simp only [Act.put, List.getElem_toArray, List.getElem_cons_succ, List.getElem_cons_zero, List.setIfInBounds_toArray, List.set_cons_succ, List.set_cons_zero]
            refine wpAnyH_ready (rs := [21]) (by kernel_rfl) (by simp) ?_
            refine AllReadyH.cons rfl (fun K hK => ?_) AllReadyH.nil
            go_simp
            refine hK.out _ _ (hid trivial) (fun hHeld => ?_)
            clear hK K
            refine wpAnyH_done (by kernel_rfl) ?_ _
            refine NoPanic.normal ?_
            go_wp2_with fail
            go_roundg gk1
            case measure => omega
            case rel => exact ⟨k + 1, _, _, by omega, by omega, HNEXT.out⟩
        · go_simp
          refine hK.out _ _ (hid trivial) (fun hHeld => ?_)
          clear hK K
          refine wpAnyH_ready (rs := [7]) (by kernel_rfl) (by simp) ?_
          refine AllReadyH.cons rfl (fun K hK => ?_) AllReadyH.nil
          go_simp
          refine hK.out _ _ (hid trivial) (fun hHeld => ?_)
          clear hK K
          refine wpAnyH_ready (rs := [8]) (by kernel_rfl) (by simp) ?_
          refine AllReadyH.cons rfl (fun K hK => ?_) AllReadyH.nil
          refine step_known (.tmp 32) (.tmp 34) 22 (by rfl) (by rfl) _ _ _ (by rfl) (by rfl) hrun (by first | rfl | (simp [Region.wanted, yielded]; done)) ?_
          refine hK.out _ _ (hid trivial) (fun hHeld => ?_)
          clear hK K
          simp only [Act.put, List.getElem_toArray, List.getElem_cons_succ, List.getElem_cons_zero, List.setIfInBounds_toArray, List.set_cons_succ, List.set_cons_zero]
          refine wpAnyH_ready (rs := [14]) (by kernel_rfl) (by simp) ?_
          refine AllReadyH.cons rfl (fun K hK => ?_) AllReadyH.nil
          go_simp
          go_wp2_with (first | (go_at_call 27; refine (sectors_any _ _ _ _ hl4).mono ?_; rintro e w9 ⟨rfl, rfl⟩))
          refine hK.out _ _ (hid trivial) (fun hHeld => ?_)
          clear hK K
          refine wpAnyH_take (i := 15) (v := (.int .i64 (z : Int))) rfl (by kernel_rfl) (by kernel_rfl) (by kernel_rfl) (fun _ _ _ h => (show False from h).elim) ?xyZ26 ?xhZ26 ?xrZ26
          case xhZ26 => exact hHeld
          case xyZ26 => exact Or.inl ⟨by rfl, fun W9 hW => by clear hHeld; simp only [List.getElem_toArray, List.getElem_cons_succ, List.getElem_cons_zero]; go_simp⟩
          simp only [Act.put, List.getElem_toArray, List.getElem_cons_succ, List.getElem_cons_zero, List.setIfInBounds_toArray, List.set_cons_succ, List.set_cons_zero]
          refine wpAnyH_take (i := 16) (v := (.pointer (some ⟨lb, 0, none⟩))) rfl (by kernel_rfl) (by kernel_rfl) (by kernel_rfl) (fun _ _ _ h => (show False from h).elim) ?xyZ27 ?xhZ27 ?xrZ27
          case xhZ27 => exact hHeld
          case xyZ27 => exact Or.inl ⟨by rfl, fun W9 hW => by clear hHeld; simp only [List.getElem_toArray, List.getElem_cons_succ, List.getElem_cons_zero]; go_simp⟩
          simp only [Act.put, List.getElem_toArray, List.getElem_cons_succ, List.getElem_cons_zero, List.setIfInBounds_toArray, List.set_cons_succ, List.set_cons_zero]
          refine wpAnyH_take (i := 17) (v := (.pointer (some ⟨lb, 5, none⟩))) rfl (by kernel_rfl) (by kernel_rfl) (by kernel_rfl) (fun _ _ _ h => (show False from h).elim) ?xyZ28 ?xhZ28 ?xrZ28
          case xhZ28 => exact hHeld
          case xyZ28 => exact Or.inl ⟨by rfl, fun W9 hW => by clear hHeld; simp only [List.getElem_toArray, List.getElem_cons_succ, List.getElem_cons_zero]; go_simp⟩
          simp only [Act.put, List.getElem_toArray, List.getElem_cons_succ, List.getElem_cons_zero, List.setIfInBounds_toArray, List.set_cons_succ, List.set_cons_zero]
          refine wpAnyH_ready (rs := [18]) (by kernel_rfl) (by simp) ?_
          refine AllReadyH.cons rfl (fun K hK => ?_) AllReadyH.nil
          go_simp
          refine hK.out _ _ (hid trivial) (fun hHeld => ?_)
          clear hK K
          refine wpAnyH_take (i := 19) (v := (.pointer (some ⟨lb, 0, none⟩))) rfl (by kernel_rfl) (by kernel_rfl) (by kernel_rfl) (fun _ _ _ h => (show False from h).elim) ?xyZ29 ?xhZ29 ?xrZ29
          case xhZ29 => exact hHeld
          case xyZ29 => exact Or.inl ⟨by rfl, fun W9 hW => by clear hHeld; simp only [List.getElem_toArray, List.getElem_cons_succ, List.getElem_cons_zero]; go_simp⟩
          simp only [Act.put, List.getElem_toArray, List.getElem_cons_succ, List.getElem_cons_zero, List.setIfInBounds_toArray, List.set_cons_succ, List.set_cons_zero]
          refine wpAnyH_take (i := 20) (v := (.pointer (some ⟨lb, 6, none⟩))) rfl (by kernel_rfl) (by kernel_rfl) (by kernel_rfl) (fun _ _ _ h => (show False from h).elim) ?xyZ30 ?xhZ30 ?xrZ30
          case xhZ30 => exact hHeld
          case xyZ30 => exact Or.inl ⟨by rfl, fun W9 hW => by clear hHeld; simp only [List.getElem_toArray, List.getElem_cons_succ, List.getElem_cons_zero]; go_simp⟩
          simp only [Act.put, List.getElem_toArray, List.getElem_cons_succ, List.getElem_cons_zero, List.setIfInBounds_toArray, List.set_cons_succ, List.set_cons_zero]
          refine wpAnyH_ready (rs := [21]) (by kernel_rfl) (by simp) ?_
          refine AllReadyH.cons rfl (fun K hK => ?_) AllReadyH.nil
          go_simp
          refine hK.out _ _ (hid trivial) (fun hHeld => ?_)
          clear hK K
          refine wpAnyH_done (by kernel_rfl) ?_ _
          refine NoPanic.normal ?_
          go_wp2_with fail
          go_roundg gk1
          case measure => omega
          case rel => exact ⟨k + 1, _, _, by omega, by omega, HNEXT.out⟩
      · go_simp
        refine hK.out _ _ (hid trivial) (fun hHeld => ?_)
        clear hK K
        refine wpAnyH_ready (rs := [5, 12]) (by kernel_rfl) (by simp) ?_
        refine AllReadyH.cons rfl (fun K hK => ?_) (AllReadyH.cons rfl (fun K hK => ?_) AllReadyH.nil)
        · go_simp
          refine hK.out _ _ (hid trivial) (fun hHeld => ?_)
          clear hK K
          refine wpAnyH_ready (rs := [8, 12]) (by kernel_rfl) (by simp) ?_
          refine AllReadyH.cons rfl (fun K hK => ?_) (AllReadyH.cons rfl (fun K hK => ?_) AllReadyH.nil)
          · refine step_known (.tmp 32) (.tmp 34) 22 (by rfl) (by rfl) _ _ _ (by rfl) (by rfl) hrun (by first | rfl | (simp [Region.wanted, yielded]; done)) ?_
            refine hK.out _ _ (hid trivial) (fun hHeld => ?_)
            clear hK K
            simp only [Act.put, List.getElem_toArray, List.getElem_cons_succ, List.getElem_cons_zero, List.setIfInBounds_toArray, List.set_cons_succ, List.set_cons_zero]
            refine wpAnyH_ready (rs := [12, 14]) (by kernel_rfl) (by simp) ?_
            refine AllReadyH.cons rfl (fun K hK => ?_) (AllReadyH.cons rfl (fun K hK => ?_) AllReadyH.nil)
            · go_simp
              refine hK.out _ _ (hid trivial) (fun hHeld => ?_)
              clear hK K
              refine wpAnyH_ready (rs := [14]) (by kernel_rfl) (by simp) ?_
              refine AllReadyH.cons rfl (fun K hK => ?_) AllReadyH.nil
              go_simp
              go_wp2_with (first | (go_at_call 27; refine (sectors_any _ _ _ _ hl4).mono ?_; rintro e w9 ⟨rfl, rfl⟩))
              refine hK.out _ _ (hid trivial) (fun hHeld => ?_)
              clear hK K
              refine wpAnyH_take (i := 15) (v := (.int .i64 (z : Int))) rfl (by kernel_rfl) (by kernel_rfl) (by kernel_rfl) (fun _ _ _ h => (show False from h).elim) ?xyZ31 ?xhZ31 ?xrZ31
              case xhZ31 => exact hHeld
              case xyZ31 => exact Or.inl ⟨by rfl, fun W9 hW => by clear hHeld; simp only [List.getElem_toArray, List.getElem_cons_succ, List.getElem_cons_zero]; go_simp⟩
              simp only [Act.put, List.getElem_toArray, List.getElem_cons_succ, List.getElem_cons_zero, List.setIfInBounds_toArray, List.set_cons_succ, List.set_cons_zero]
              refine wpAnyH_take (i := 16) (v := (.pointer (some ⟨lb, 0, none⟩))) rfl (by kernel_rfl) (by kernel_rfl) (by kernel_rfl) (fun _ _ _ h => (show False from h).elim) ?xyZ32 ?xhZ32 ?xrZ32
              case xhZ32 => exact hHeld
              case xyZ32 => exact Or.inl ⟨by rfl, fun W9 hW => by clear hHeld; simp only [List.getElem_toArray, List.getElem_cons_succ, List.getElem_cons_zero]; go_simp⟩
              simp only [Act.put, List.getElem_toArray, List.getElem_cons_succ, List.getElem_cons_zero, List.setIfInBounds_toArray, List.set_cons_succ, List.set_cons_zero]
              refine wpAnyH_take (i := 17) (v := (.pointer (some ⟨lb, 5, none⟩))) rfl (by kernel_rfl) (by kernel_rfl) (by kernel_rfl) (fun _ _ _ h => (show False from h).elim) ?xyZ33 ?xhZ33 ?xrZ33
              case xhZ33 => exact hHeld
              case xyZ33 => exact Or.inl ⟨by rfl, fun W9 hW => by clear hHeld; simp only [List.getElem_toArray, List.getElem_cons_succ, List.getElem_cons_zero]; go_simp⟩
              simp only [Act.put, List.getElem_toArray, List.getElem_cons_succ, List.getElem_cons_zero, List.setIfInBounds_toArray, List.set_cons_succ, List.set_cons_zero]
              refine wpAnyH_ready (rs := [18]) (by kernel_rfl) (by simp) ?_
              refine AllReadyH.cons rfl (fun K hK => ?_) AllReadyH.nil
              go_simp
              refine hK.out _ _ (hid trivial) (fun hHeld => ?_)
              clear hK K
              refine wpAnyH_take (i := 19) (v := (.pointer (some ⟨lb, 0, none⟩))) rfl (by kernel_rfl) (by kernel_rfl) (by kernel_rfl) (fun _ _ _ h => (show False from h).elim) ?xyZ34 ?xhZ34 ?xrZ34
              case xhZ34 => exact hHeld
              case xyZ34 => exact Or.inl ⟨by rfl, fun W9 hW => by clear hHeld; simp only [List.getElem_toArray, List.getElem_cons_succ, List.getElem_cons_zero]; go_simp⟩
              simp only [Act.put, List.getElem_toArray, List.getElem_cons_succ, List.getElem_cons_zero, List.setIfInBounds_toArray, List.set_cons_succ, List.set_cons_zero]
              refine wpAnyH_take (i := 20) (v := (.pointer (some ⟨lb, 6, none⟩))) rfl (by kernel_rfl) (by kernel_rfl) (by kernel_rfl) (fun _ _ _ h => (show False from h).elim) ?xyZ35 ?xhZ35 ?xrZ35
              case xhZ35 => exact hHeld
              case xyZ35 => exact Or.inl ⟨by rfl, fun W9 hW => by clear hHeld; simp only [List.getElem_toArray, List.getElem_cons_succ, List.getElem_cons_zero]; go_simp⟩
              simp only [Act.put, List.getElem_toArray, List.getElem_cons_succ, List.getElem_cons_zero, List.setIfInBounds_toArray, List.set_cons_succ, List.set_cons_zero]
              refine wpAnyH_ready (rs := [21]) (by kernel_rfl) (by simp) ?_
              refine AllReadyH.cons rfl (fun K hK => ?_) AllReadyH.nil
              go_simp
              refine hK.out _ _ (hid trivial) (fun hHeld => ?_)
              clear hK K
              refine wpAnyH_done (by kernel_rfl) ?_ _
              refine NoPanic.normal ?_
              go_wp2_with fail
              go_roundg gk1
              case measure => omega
              case rel => exact ⟨k + 1, _, _, by omega, by omega, HNEXT.out⟩
            · go_simp
              go_wp2_with (first | (go_at_call 27; refine (sectors_any _ _ _ _ hl4).mono ?_; rintro e w9 ⟨rfl, rfl⟩))
              refine hK.out _ _ (hid trivial) (fun hHeld => ?_)
              clear hK K
              refine wpAnyH_ready (rs := [12]) (by kernel_rfl) (by simp) ?_
              refine AllReadyH.cons rfl (fun K hK => ?_) AllReadyH.nil
              go_simp
              refine hK.out _ _ (hid trivial) (fun hHeld => ?_)
              clear hK K
              refine wpAnyH_take (i := 15) (v := (.int .i64 (z : Int))) rfl (by kernel_rfl) (by kernel_rfl) (by kernel_rfl) (fun _ _ _ h => (show False from h).elim) ?xyZ36 ?xhZ36 ?xrZ36
              case xhZ36 => exact hHeld
              case xyZ36 => exact Or.inl ⟨by rfl, fun W9 hW => by clear hHeld; simp only [List.getElem_toArray, List.getElem_cons_succ, List.getElem_cons_zero]; go_simp⟩
              simp only [Act.put, List.getElem_toArray, List.getElem_cons_succ, List.getElem_cons_zero, List.setIfInBounds_toArray, List.set_cons_succ, List.set_cons_zero]
              refine wpAnyH_take (i := 16) (v := (.pointer (some ⟨lb, 0, none⟩))) rfl (by kernel_rfl) (by kernel_rfl) (by kernel_rfl) (fun _ _ _ h => (show False from h).elim) ?xyZ37 ?xhZ37 ?xrZ37
              case xhZ37 => exact hHeld
              case xyZ37 => exact Or.inl ⟨by rfl, fun W9 hW => by clear hHeld; simp only [List.getElem_toArray, List.getElem_cons_succ, List.getElem_cons_zero]; go_simp⟩
              simp only [Act.put, List.getElem_toArray, List.getElem_cons_succ, List.getElem_cons_zero, List.setIfInBounds_toArray, List.set_cons_succ, List.set_cons_zero]
              refine wpAnyH_take (i := 17) (v := (.pointer (some ⟨lb, 5, none⟩))) rfl (by kernel_rfl) (by kernel_rfl) (by kernel_rfl) (fun _ _ _ h => (show False from h).elim) ?xyZ38 ?xhZ38 ?xrZ38
              case xhZ38 => exact hHeld
              case xyZ38 => exact Or.inl ⟨by rfl, fun W9 hW => by clear hHeld; simp only [List.getElem_toArray, List.getElem_cons_succ, List.getElem_cons_zero]; go_simp⟩
              simp only [Act.put, List.getElem_toArray, List.getElem_cons_succ, List.getElem_cons_zero, List.setIfInBounds_toArray, List.set_cons_succ, List.set_cons_zero]
              refine wpAnyH_ready (rs := [18]) (by kernel_rfl) (by simp) ?_
              refine AllReadyH.cons rfl (fun K hK => ?_) AllReadyH.nil
              go_simp
              refine hK.out _ _ (hid trivial) (fun hHeld => ?_)
              clear hK K
              refine wpAnyH_take (i := 19) (v := (.pointer (some ⟨lb, 0, none⟩))) rfl (by kernel_rfl) (by kernel_rfl) (by kernel_rfl) (fun _ _ _ h => (show False from h).elim) ?xyZ39 ?xhZ39 ?xrZ39
              case xhZ39 => exact hHeld
              case xyZ39 => exact Or.inl ⟨by rfl, fun W9 hW => by clear hHeld; simp only [List.getElem_toArray, List.getElem_cons_succ, List.getElem_cons_zero]; go_simp⟩
              simp only [Act.put, List.getElem_toArray, List.getElem_cons_succ, List.getElem_cons_zero, List.setIfInBounds_toArray, List.set_cons_succ, List.set_cons_zero]
              refine wpAnyH_take (i := 20) (v := (.pointer (some ⟨lb, 6, none⟩))) rfl (by kernel_rfl) (by kernel_rfl) (by kernel_rfl) (fun _ _ _ h => (show False from h).elim) ?xyZ40 ?xhZ40 ?xrZ40
              case xhZ40 => exact hHeld
              case xyZ40 => exact Or.inl ⟨by rfl, fun W9 hW => by clear hHeld; simp only [List.getElem_toArray, List.getElem_cons_succ, List.getElem_cons_zero]; go_simp⟩
              simp only [Act.put, List.getElem_toArray, List.getElem_cons_succ, List.getElem_cons_zero, List.setIfInBounds_toArray, List.set_cons_succ, List.set_cons_zero]
              refine wpAnyH_ready (rs := [21]) (by kernel_rfl) (by simp) ?_
              refine AllReadyH.cons rfl (fun K hK => ?_) AllReadyH.nil
              go_simp
              refine hK.out _ _ (hid trivial) (fun hHeld => ?_)
              clear hK K
              refine wpAnyH_done (by kernel_rfl) ?_ _
              refine NoPanic.normal ?_
              go_wp2_with fail
              go_roundg gk1
              case measure => omega
              case rel => exact ⟨k + 1, _, _, by omega, by omega, HNEXT.out⟩
          · go_simp
            refine hK.out _ _ (hid trivial) (fun hHeld => ?_)
            clear hK K
            refine wpAnyH_ready (rs := [8]) (by kernel_rfl) (by simp) ?_
            refine AllReadyH.cons rfl (fun K hK => ?_) AllReadyH.nil
            refine step_known (.tmp 32) (.tmp 34) 22 (by rfl) (by rfl) _ _ _ (by rfl) (by rfl) hrun (by first | rfl | (simp [Region.wanted, yielded]; done)) ?_
            refine hK.out _ _ (hid trivial) (fun hHeld => ?_)
            clear hK K
            simp only [Act.put, List.getElem_toArray, List.getElem_cons_succ, List.getElem_cons_zero, List.setIfInBounds_toArray, List.set_cons_succ, List.set_cons_zero]
            refine wpAnyH_ready (rs := [14]) (by kernel_rfl) (by simp) ?_
            refine AllReadyH.cons rfl (fun K hK => ?_) AllReadyH.nil
            go_simp
            go_wp2_with (first | (go_at_call 27; refine (sectors_any _ _ _ _ hl4).mono ?_; rintro e w9 ⟨rfl, rfl⟩))
            refine hK.out _ _ (hid trivial) (fun hHeld => ?_)
            clear hK K
            refine wpAnyH_take (i := 15) (v := (.int .i64 (z : Int))) rfl (by kernel_rfl) (by kernel_rfl) (by kernel_rfl) (fun _ _ _ h => (show False from h).elim) ?xyZ41 ?xhZ41 ?xrZ41
            case xhZ41 => exact hHeld
            case xyZ41 => exact Or.inl ⟨by rfl, fun W9 hW => by clear hHeld; simp only [List.getElem_toArray, List.getElem_cons_succ, List.getElem_cons_zero]; go_simp⟩
            simp only [Act.put, List.getElem_toArray, List.getElem_cons_succ, List.getElem_cons_zero, List.setIfInBounds_toArray, List.set_cons_succ, List.set_cons_zero]
            refine wpAnyH_take (i := 16) (v := (.pointer (some ⟨lb, 0, none⟩))) rfl (by kernel_rfl) (by kernel_rfl) (by kernel_rfl) (fun _ _ _ h => (show False from h).elim) ?xyZ42 ?xhZ42 ?xrZ42
            case xhZ42 => exact hHeld
            case xyZ42 => exact Or.inl ⟨by rfl, fun W9 hW => by clear hHeld; simp only [List.getElem_toArray, List.getElem_cons_succ, List.getElem_cons_zero]; go_simp⟩
            simp only [Act.put, List.getElem_toArray, List.getElem_cons_succ, List.getElem_cons_zero, List.setIfInBounds_toArray, List.set_cons_succ, List.set_cons_zero]
            refine wpAnyH_take (i := 17) (v := (.pointer (some ⟨lb, 5, none⟩))) rfl (by kernel_rfl) (by kernel_rfl) (by kernel_rfl) (fun _ _ _ h => (show False from h).elim) ?xyZ43 ?xhZ43 ?xrZ43
            case xhZ43 => exact hHeld
            case xyZ43 => exact Or.inl ⟨by rfl, fun W9 hW => by clear hHeld; simp only [List.getElem_toArray, List.getElem_cons_succ, List.getElem_cons_zero]; go_simp⟩
            simp only [Act.put, List.getElem_toArray, List.getElem_cons_succ, List.getElem_cons_zero, List.setIfInBounds_toArray, List.set_cons_succ, List.set_cons_zero]
            refine wpAnyH_ready (rs := [18]) (by kernel_rfl) (by simp) ?_
            refine AllReadyH.cons rfl (fun K hK => ?_) AllReadyH.nil
            go_simp
            refine hK.out _ _ (hid trivial) (fun hHeld => ?_)
            clear hK K
            refine wpAnyH_take (i := 19) (v := (.pointer (some ⟨lb, 0, none⟩))) rfl (by kernel_rfl) (by kernel_rfl) (by kernel_rfl) (fun _ _ _ h => (show False from h).elim) ?xyZ44 ?xhZ44 ?xrZ44
            case xhZ44 => exact hHeld
            case xyZ44 => exact Or.inl ⟨by rfl, fun W9 hW => by clear hHeld; simp only [List.getElem_toArray, List.getElem_cons_succ, List.getElem_cons_zero]; go_simp⟩
            simp only [Act.put, List.getElem_toArray, List.getElem_cons_succ, List.getElem_cons_zero, List.setIfInBounds_toArray, List.set_cons_succ, List.set_cons_zero]
            refine wpAnyH_take (i := 20) (v := (.pointer (some ⟨lb, 6, none⟩))) rfl (by kernel_rfl) (by kernel_rfl) (by kernel_rfl) (fun _ _ _ h => (show False from h).elim) ?xyZ45 ?xhZ45 ?xrZ45
            case xhZ45 => exact hHeld
            case xyZ45 => exact Or.inl ⟨by rfl, fun W9 hW => by clear hHeld; simp only [List.getElem_toArray, List.getElem_cons_succ, List.getElem_cons_zero]; go_simp⟩
            simp only [Act.put, List.getElem_toArray, List.getElem_cons_succ, List.getElem_cons_zero, List.setIfInBounds_toArray, List.set_cons_succ, List.set_cons_zero]
            refine wpAnyH_ready (rs := [21]) (by kernel_rfl) (by simp) ?_
            refine AllReadyH.cons rfl (fun K hK => ?_) AllReadyH.nil
            go_simp
            refine hK.out _ _ (hid trivial) (fun hHeld => ?_)
            clear hK K
            refine wpAnyH_done (by kernel_rfl) ?_ _
            refine NoPanic.normal ?_
            go_wp2_with fail
            go_roundg gk1
            case measure => omega
            case rel => exact ⟨k + 1, _, _, by omega, by omega, HNEXT.out⟩
        · go_simp
          refine hK.out _ _ (hid trivial) (fun hHeld => ?_)
          clear hK K
          refine wpAnyH_ready (rs := [5]) (by kernel_rfl) (by simp) ?_
          refine AllReadyH.cons rfl (fun K hK => ?_) AllReadyH.nil
          go_simp
          refine hK.out _ _ (hid trivial) (fun hHeld => ?_)
          clear hK K
          refine wpAnyH_ready (rs := [8]) (by kernel_rfl) (by simp) ?_
          refine AllReadyH.cons rfl (fun K hK => ?_) AllReadyH.nil
          refine step_known (.tmp 32) (.tmp 34) 22 (by rfl) (by rfl) _ _ _ (by rfl) (by rfl) hrun (by first | rfl | (simp [Region.wanted, yielded]; done)) ?_
          refine hK.out _ _ (hid trivial) (fun hHeld => ?_)
          clear hK K
          simp only [Act.put, List.getElem_toArray, List.getElem_cons_succ, List.getElem_cons_zero, List.setIfInBounds_toArray, List.set_cons_succ, List.set_cons_zero]
          refine wpAnyH_ready (rs := [14]) (by kernel_rfl) (by simp) ?_
          refine AllReadyH.cons rfl (fun K hK => ?_) AllReadyH.nil
          go_simp
          go_wp2_with (first | (go_at_call 27; refine (sectors_any _ _ _ _ hl4).mono ?_; rintro e w9 ⟨rfl, rfl⟩))
          refine hK.out _ _ (hid trivial) (fun hHeld => ?_)
          clear hK K
          refine wpAnyH_take (i := 15) (v := (.int .i64 (z : Int))) rfl (by kernel_rfl) (by kernel_rfl) (by kernel_rfl) (fun _ _ _ h => (show False from h).elim) ?xyZ46 ?xhZ46 ?xrZ46
          case xhZ46 => exact hHeld
          case xyZ46 => exact Or.inl ⟨by rfl, fun W9 hW => by clear hHeld; simp only [List.getElem_toArray, List.getElem_cons_succ, List.getElem_cons_zero]; go_simp⟩
          simp only [Act.put, List.getElem_toArray, List.getElem_cons_succ, List.getElem_cons_zero, List.setIfInBounds_toArray, List.set_cons_succ, List.set_cons_zero]
          refine wpAnyH_take (i := 16) (v := (.pointer (some ⟨lb, 0, none⟩))) rfl (by kernel_rfl) (by kernel_rfl) (by kernel_rfl) (fun _ _ _ h => (show False from h).elim) ?xyZ47 ?xhZ47 ?xrZ47
          case xhZ47 => exact hHeld
          case xyZ47 => exact Or.inl ⟨by rfl, fun W9 hW => by clear hHeld; simp only [List.getElem_toArray, List.getElem_cons_succ, List.getElem_cons_zero]; go_simp⟩
          simp only [Act.put, List.getElem_toArray, List.getElem_cons_succ, List.getElem_cons_zero, List.setIfInBounds_toArray, List.set_cons_succ, List.set_cons_zero]
          refine wpAnyH_take (i := 17) (v := (.pointer (some ⟨lb, 5, none⟩))) rfl (by kernel_rfl) (by kernel_rfl) (by kernel_rfl) (fun _ _ _ h => (show False from h).elim) ?xyZ48 ?xhZ48 ?xrZ48
          case xhZ48 => exact hHeld
          case xyZ48 => exact Or.inl ⟨by rfl, fun W9 hW => by clear hHeld; simp only [List.getElem_toArray, List.getElem_cons_succ, List.getElem_cons_zero]; go_simp⟩
          simp only [Act.put, List.getElem_toArray, List.getElem_cons_succ, List.getElem_cons_zero, List.setIfInBounds_toArray, List.set_cons_succ, List.set_cons_zero]
          refine wpAnyH_ready (rs := [18]) (by kernel_rfl) (by simp) ?_
          refine AllReadyH.cons rfl (fun K hK => ?_) AllReadyH.nil
          go_simp
          refine hK.out _ _ (hid trivial) (fun hHeld => ?_)
          clear hK K
          refine wpAnyH_take (i := 19) (v := (.pointer (some ⟨lb, 0, none⟩))) rfl (by kernel_rfl) (by kernel_rfl) (by kernel_rfl) (fun _ _ _ h => (show False from h).elim) ?xyZ49 ?xhZ49 ?xrZ49
          case xhZ49 => exact hHeld
          case xyZ49 => exact Or.inl ⟨by rfl, fun W9 hW => by clear hHeld; simp only [List.getElem_toArray, List.getElem_cons_succ, List.getElem_cons_zero]; go_simp⟩
          simp only [Act.put, List.getElem_toArray, List.getElem_cons_succ, List.getElem_cons_zero, List.setIfInBounds_toArray, List.set_cons_succ, List.set_cons_zero]
          refine wpAnyH_take (i := 20) (v := (.pointer (some ⟨lb, 6, none⟩))) rfl (by kernel_rfl) (by kernel_rfl) (by kernel_rfl) (fun _ _ _ h => (show False from h).elim) ?xyZ50 ?xhZ50 ?xrZ50
          case xhZ50 => exact hHeld
          case xyZ50 => exact Or.inl ⟨by rfl, fun W9 hW => by clear hHeld; simp only [List.getElem_toArray, List.getElem_cons_succ, List.getElem_cons_zero]; go_simp⟩
          simp only [Act.put, List.getElem_toArray, List.getElem_cons_succ, List.getElem_cons_zero, List.setIfInBounds_toArray, List.set_cons_succ, List.set_cons_zero]
          refine wpAnyH_ready (rs := [21]) (by kernel_rfl) (by simp) ?_
          refine AllReadyH.cons rfl (fun K hK => ?_) AllReadyH.nil
          go_simp
          refine hK.out _ _ (hid trivial) (fun hHeld => ?_)
          clear hK K
          refine wpAnyH_done (by kernel_rfl) ?_ _
          refine NoPanic.normal ?_
          go_wp2_with fail
          go_roundg gk1
          case measure => omega
          case rel => exact ⟨k + 1, _, _, by omega, by omega, HNEXT.out⟩
      · go_simp
        refine hK.out _ _ (hid trivial) (fun hHeld => ?_)
        clear hK K
        refine wpAnyH_ready (rs := [5, 7]) (by kernel_rfl) (by simp) ?_
        refine AllReadyH.cons rfl (fun K hK => ?_) (AllReadyH.cons rfl (fun K hK => ?_) AllReadyH.nil)
        · go_simp
          refine hK.out _ _ (hid trivial) (fun hHeld => ?_)
          clear hK K
          refine wpAnyH_ready (rs := [7]) (by kernel_rfl) (by simp) ?_
          refine AllReadyH.cons rfl (fun K hK => ?_) AllReadyH.nil
          go_simp
          refine hK.out _ _ (hid trivial) (fun hHeld => ?_)
          clear hK K
          refine wpAnyH_ready (rs := [8]) (by kernel_rfl) (by simp) ?_
          refine AllReadyH.cons rfl (fun K hK => ?_) AllReadyH.nil
          refine step_known (.tmp 32) (.tmp 34) 22 (by rfl) (by rfl) _ _ _ (by rfl) (by rfl) hrun (by first | rfl | (simp [Region.wanted, yielded]; done)) ?_
          refine hK.out _ _ (hid trivial) (fun hHeld => ?_)
          clear hK K
          simp only [Act.put, List.getElem_toArray, List.getElem_cons_succ, List.getElem_cons_zero, List.setIfInBounds_toArray, List.set_cons_succ, List.set_cons_zero]
          refine wpAnyH_ready (rs := [14]) (by kernel_rfl) (by simp) ?_
          refine AllReadyH.cons rfl (fun K hK => ?_) AllReadyH.nil
          go_simp
          go_wp2_with (first | (go_at_call 27; refine (sectors_any _ _ _ _ hl4).mono ?_; rintro e w9 ⟨rfl, rfl⟩))
          refine hK.out _ _ (hid trivial) (fun hHeld => ?_)
          clear hK K
          refine wpAnyH_take (i := 15) (v := (.int .i64 (z : Int))) rfl (by kernel_rfl) (by kernel_rfl) (by kernel_rfl) (fun _ _ _ h => (show False from h).elim) ?xyZ51 ?xhZ51 ?xrZ51
          case xhZ51 => exact hHeld
          case xyZ51 => exact Or.inl ⟨by rfl, fun W9 hW => by clear hHeld; simp only [List.getElem_toArray, List.getElem_cons_succ, List.getElem_cons_zero]; go_simp⟩
          simp only [Act.put, List.getElem_toArray, List.getElem_cons_succ, List.getElem_cons_zero, List.setIfInBounds_toArray, List.set_cons_succ, List.set_cons_zero]
          refine wpAnyH_take (i := 16) (v := (.pointer (some ⟨lb, 0, none⟩))) rfl (by kernel_rfl) (by kernel_rfl) (by kernel_rfl) (fun _ _ _ h => (show False from h).elim) ?xyZ52 ?xhZ52 ?xrZ52
          case xhZ52 => exact hHeld
          case xyZ52 => exact Or.inl ⟨by rfl, fun W9 hW => by clear hHeld; simp only [List.getElem_toArray, List.getElem_cons_succ, List.getElem_cons_zero]; go_simp⟩
          simp only [Act.put, List.getElem_toArray, List.getElem_cons_succ, List.getElem_cons_zero, List.setIfInBounds_toArray, List.set_cons_succ, List.set_cons_zero]
          refine wpAnyH_take (i := 17) (v := (.pointer (some ⟨lb, 5, none⟩))) rfl (by kernel_rfl) (by kernel_rfl) (by kernel_rfl) (fun _ _ _ h => (show False from h).elim) ?xyZ53 ?xhZ53 ?xrZ53
          case xhZ53 => exact hHeld
          case xyZ53 => exact Or.inl ⟨by rfl, fun W9 hW => by clear hHeld; simp only [List.getElem_toArray, List.getElem_cons_succ, List.getElem_cons_zero]; go_simp⟩
          simp only [Act.put, List.getElem_toArray, List.getElem_cons_succ, List.getElem_cons_zero, List.setIfInBounds_toArray, List.set_cons_succ, List.set_cons_zero]
          refine wpAnyH_ready (rs := [18]) (by kernel_rfl) (by simp) ?_
          refine AllReadyH.cons rfl (fun K hK => ?_) AllReadyH.nil
          go_simp
          refine hK.out _ _ (hid trivial) (fun hHeld => ?_)
          clear hK K
          refine wpAnyH_take (i := 19) (v := (.pointer (some ⟨lb, 0, none⟩))) rfl (by kernel_rfl) (by kernel_rfl) (by kernel_rfl) (fun _ _ _ h => (show False from h).elim) ?xyZ54 ?xhZ54 ?xrZ54
          case xhZ54 => exact hHeld
          case xyZ54 => exact Or.inl ⟨by rfl, fun W9 hW => by clear hHeld; simp only [List.getElem_toArray, List.getElem_cons_succ, List.getElem_cons_zero]; go_simp⟩
          simp only [Act.put, List.getElem_toArray, List.getElem_cons_succ, List.getElem_cons_zero, List.setIfInBounds_toArray, List.set_cons_succ, List.set_cons_zero]
          refine wpAnyH_take (i := 20) (v := (.pointer (some ⟨lb, 6, none⟩))) rfl (by kernel_rfl) (by kernel_rfl) (by kernel_rfl) (fun _ _ _ h => (show False from h).elim) ?xyZ55 ?xhZ55 ?xrZ55
          case xhZ55 => exact hHeld
          case xyZ55 => exact Or.inl ⟨by rfl, fun W9 hW => by clear hHeld; simp only [List.getElem_toArray, List.getElem_cons_succ, List.getElem_cons_zero]; go_simp⟩
          simp only [Act.put, List.getElem_toArray, List.getElem_cons_succ, List.getElem_cons_zero, List.setIfInBounds_toArray, List.set_cons_succ, List.set_cons_zero]
          refine wpAnyH_ready (rs := [21]) (by kernel_rfl) (by simp) ?_
          refine AllReadyH.cons rfl (fun K hK => ?_) AllReadyH.nil
          go_simp
          refine hK.out _ _ (hid trivial) (fun hHeld => ?_)
          clear hK K
          refine wpAnyH_done (by kernel_rfl) ?_ _
          refine NoPanic.normal ?_
          go_wp2_with fail
          go_roundg gk1
          case measure => omega
          case rel => exact ⟨k + 1, _, _, by omega, by omega, HNEXT.out⟩
        · go_simp
          refine hK.out _ _ (hid trivial) (fun hHeld => ?_)
          clear hK K
          refine wpAnyH_ready (rs := [5]) (by kernel_rfl) (by simp) ?_
          refine AllReadyH.cons rfl (fun K hK => ?_) AllReadyH.nil
          go_simp
          refine hK.out _ _ (hid trivial) (fun hHeld => ?_)
          clear hK K
          refine wpAnyH_ready (rs := [8]) (by kernel_rfl) (by simp) ?_
          refine AllReadyH.cons rfl (fun K hK => ?_) AllReadyH.nil
          refine step_known (.tmp 32) (.tmp 34) 22 (by rfl) (by rfl) _ _ _ (by rfl) (by rfl) hrun (by first | rfl | (simp [Region.wanted, yielded]; done)) ?_
          refine hK.out _ _ (hid trivial) (fun hHeld => ?_)
          clear hK K
          simp only [Act.put, List.getElem_toArray, List.getElem_cons_succ, List.getElem_cons_zero, List.setIfInBounds_toArray, List.set_cons_succ, List.set_cons_zero]
          refine wpAnyH_ready (rs := [14]) (by kernel_rfl) (by simp) ?_
          refine AllReadyH.cons rfl (fun K hK => ?_) AllReadyH.nil
          go_simp
          go_wp2_with (first | (go_at_call 27; refine (sectors_any _ _ _ _ hl4).mono ?_; rintro e w9 ⟨rfl, rfl⟩))
          refine hK.out _ _ (hid trivial) (fun hHeld => ?_)
          clear hK K
          refine wpAnyH_take (i := 15) (v := (.int .i64 (z : Int))) rfl (by kernel_rfl) (by kernel_rfl) (by kernel_rfl) (fun _ _ _ h => (show False from h).elim) ?xyZ56 ?xhZ56 ?xrZ56
          case xhZ56 => exact hHeld
          case xyZ56 => exact Or.inl ⟨by rfl, fun W9 hW => by clear hHeld; simp only [List.getElem_toArray, List.getElem_cons_succ, List.getElem_cons_zero]; go_simp⟩
          simp only [Act.put, List.getElem_toArray, List.getElem_cons_succ, List.getElem_cons_zero, List.setIfInBounds_toArray, List.set_cons_succ, List.set_cons_zero]
          refine wpAnyH_take (i := 16) (v := (.pointer (some ⟨lb, 0, none⟩))) rfl (by kernel_rfl) (by kernel_rfl) (by kernel_rfl) (fun _ _ _ h => (show False from h).elim) ?xyZ57 ?xhZ57 ?xrZ57
          case xhZ57 => exact hHeld
          case xyZ57 => exact Or.inl ⟨by rfl, fun W9 hW => by clear hHeld; simp only [List.getElem_toArray, List.getElem_cons_succ, List.getElem_cons_zero]; go_simp⟩
          simp only [Act.put, List.getElem_toArray, List.getElem_cons_succ, List.getElem_cons_zero, List.setIfInBounds_toArray, List.set_cons_succ, List.set_cons_zero]
          refine wpAnyH_take (i := 17) (v := (.pointer (some ⟨lb, 5, none⟩))) rfl (by kernel_rfl) (by kernel_rfl) (by kernel_rfl) (fun _ _ _ h => (show False from h).elim) ?xyZ58 ?xhZ58 ?xrZ58
          case xhZ58 => exact hHeld
          case xyZ58 => exact Or.inl ⟨by rfl, fun W9 hW => by clear hHeld; simp only [List.getElem_toArray, List.getElem_cons_succ, List.getElem_cons_zero]; go_simp⟩
          simp only [Act.put, List.getElem_toArray, List.getElem_cons_succ, List.getElem_cons_zero, List.setIfInBounds_toArray, List.set_cons_succ, List.set_cons_zero]
          refine wpAnyH_ready (rs := [18]) (by kernel_rfl) (by simp) ?_
          refine AllReadyH.cons rfl (fun K hK => ?_) AllReadyH.nil
          go_simp
          refine hK.out _ _ (hid trivial) (fun hHeld => ?_)
          clear hK K
          refine wpAnyH_take (i := 19) (v := (.pointer (some ⟨lb, 0, none⟩))) rfl (by kernel_rfl) (by kernel_rfl) (by kernel_rfl) (fun _ _ _ h => (show False from h).elim) ?xyZ59 ?xhZ59 ?xrZ59
          case xhZ59 => exact hHeld
          case xyZ59 => exact Or.inl ⟨by rfl, fun W9 hW => by clear hHeld; simp only [List.getElem_toArray, List.getElem_cons_succ, List.getElem_cons_zero]; go_simp⟩
          simp only [Act.put, List.getElem_toArray, List.getElem_cons_succ, List.getElem_cons_zero, List.setIfInBounds_toArray, List.set_cons_succ, List.set_cons_zero]
          refine wpAnyH_take (i := 20) (v := (.pointer (some ⟨lb, 6, none⟩))) rfl (by kernel_rfl) (by kernel_rfl) (by kernel_rfl) (fun _ _ _ h => (show False from h).elim) ?xyZ60 ?xhZ60 ?xrZ60
          case xhZ60 => exact hHeld
          case xyZ60 => exact Or.inl ⟨by rfl, fun W9 hW => by clear hHeld; simp only [List.getElem_toArray, List.getElem_cons_succ, List.getElem_cons_zero]; go_simp⟩
          simp only [Act.put, List.getElem_toArray, List.getElem_cons_succ, List.getElem_cons_zero, List.setIfInBounds_toArray, List.set_cons_succ, List.set_cons_zero]
          refine wpAnyH_ready (rs := [21]) (by kernel_rfl) (by simp) ?_
          refine AllReadyH.cons rfl (fun K hK => ?_) AllReadyH.nil
          go_simp
          refine hK.out _ _ (hid trivial) (fun hHeld => ?_)
          clear hK K
          refine wpAnyH_done (by kernel_rfl) ?_ _
          refine NoPanic.normal ?_
          go_wp2_with fail
          go_roundg gk1
          case measure => omega
          case rel => exact ⟨k + 1, _, _, by omega, by omega, HNEXT.out⟩
    · obtain rfl : k = Bs.length := by omega
      have CR0 := record_nor HI.out.1.lk HDr.out HK.out (offs Bs Bs.length) (by have := HO.out.room; omega) hn HT.out HO.out.none
      rw [← hu] at CR0
      have CR := hid CR0
      have heq := fun W => Lib.run_eql_slice_nil (P := Tryd.prog) W 32 5 none 0 0 0 0 Tryd.underlying32
      have HU2 := hid hu
      clear CR0 hu
      go_wp2_with (first | (go_at_call 38; refine CR.out.mono ?_; rintro e w3 ⟨rfl, hb3⟩))
      go_ret
      have hI := HI.out.1
      exact ⟨rfl, rv, R, by rw [HI.out.2, List.take_length], ⟨hI.lk.old hb3, hI.rof.old hb3, hI.rvn, hI.rn, hI.keep.trans (Keep.of_below hb3)⟩⟩
end
end Go.Proofs.YtcbbklbjfknnlaaDoor
