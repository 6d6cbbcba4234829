/-
  PAGES: slices.Replace in the midst of a row.
-/
import Derived.Test.YtcgnghkjkdkmmaaGr2
import Derived.Deep.RegionLaw
set_option linter.unusedVariables false
namespace Go.Proofs.Ytcgnghkjkdkmmaa
open Go.RowKit Go.Shelf

/-- copy into a row that is known whole, run. -/
theorem run_copy_rows {P : Program} (w : World) (dT sT : TypeId) (elem : TypeId) (hu : P.underlying dT = some (.slice elem)) (hsz : (P.info? elem).map (·.size) = some 1)
    (dp sp : Option Addr) (dLen dCap sLen sCap : Nat) (g off : Nat) (cur : List Value) (t : TypeId) (hg : w.heap[g]? = some (.cells cur.toArray t (0, 0))) (cs : List Value) (hn : cs.length = Nat.min sLen dLen)
    (hpos : 0 < cs.length → dp = some ⟨g, off, none⟩ ∧ ∃ ad, sp = some ad ∧ ∀ (j : Nat) v, cs[j]? = some v → w.cell? (ad.add j) = some v)
    (hfit : off + cs.length ≤ cur.length) (h1 : ∀ v ∈ cs, v.oneCell' = true) :
    ∃ w', (∀ ty, (Builtin.copy_ #[dT, sT] ty #[.slice dp dLen dCap, .slice sp sLen sCap]).run P w = .ok (.int .i64 (cs.length : Int)) w') ∧ w'.heap[g]? = some (.cells (splice cur off cs).toArray t (0, 0)) ∧ w.grownBy w' (some g) := by
  by_cases h0 : cs.length = 0
  · obtain rfl : cs = [] := List.eq_nil_of_length_eq_zero h0
    exact ⟨w, fun ty => run_copy_none (P := P) w dT sT ty elem dp sp dLen dCap sLen sCap hu hsz (by simpa using hn.symm), by simpa [splice] using hg, World.grownBy.refl _ _⟩
  · obtain ⟨rfl, ad, rfl, hsrc⟩ := hpos (by omega)
    exact ⟨_, fun ty => run_copy_row (P := P) w dT sT ty elem g off dLen dCap ad sLen sCap cur.toArray t cs hu hsz hg hn hsrc (by simpa using hfit) h1, by simpa [splice] using setRow_heap w g _ _ t _ hg, grown_setRow _ _ _⟩

theorem cell_grown {w w' : World} {a : Addr} {v : Value} (h : w.grownBy w' none) (hc : w.cell? a = some v) : w'.cell? a = some v := by
  rw [World.cell?_of_block (w := w) (a := a) (h.block _ (World.block_lt_of_cell? w _ hc) (by simp))]; exact hc
theorem cell_grown' {w w' : World} {a : Addr} {v : Value} {g : Nat} (h : w.grownBy w' (some g)) (hc : w.cell? a = some v) (hne : a.block ≠ g) : w'.cell? a = some v := by
  rw [World.cell?_of_block (w := w) (a := a) (h.block _ (World.block_lt_of_cell? w _ hc) (by simpa using hne))]; exact hc
/-- What was made since, and written since: all that lay lies. -/
theorem grown_new {w1 w2 w3 w4 : World} {g : Nat} (h1 : w1.grownBy w2 none) (h2 : w2.grownBy w3 (some w1.heap.size)) (h3 : w3.drew.grownBy w4 (some w1.heap.size)) : w1.grownBy w4 (some g) :=
  ⟨h3.os.trans (h2.os.trans h1.os), h3.tape.trans (h2.tape.trans h1.tape), h3.output.trans (h2.output.trans h1.output), Nat.le_trans h1.size (Nat.le_trans h2.size h3.size), fun k hk _ => by
    have e1 := h1.block k hk (by simp)
    have e2 := h2.block k (Nat.lt_of_lt_of_le hk h1.size) (by simp; omega)
    have e3 := h3.block k (Nat.lt_of_lt_of_le hk (Nat.le_trans h1.size h2.size)) (by simp; omega)
    exact e3.trans (e2.trans e1)⟩

/-- What the three ways in the midst begin with. -/
structure Mid (base g cap n i j : Nat) (cur : List Value) (v : Value) (T : List Value) (w : World) : Prop where
  hg : w.heap[g]? = some (.cells cur.toArray 29 (0, 0))
  hb : base ≤ g
  hcl : cur.length = cap
  hm : cap ≤ maxLen
  hn : n ≤ cap
  hnl : n ≤ 1000000
  hij : i < j
  hjn : j < n
  hT : T.length ≤ 1000
  hv : Vals w v T
  hone : ∀ u ∈ cur.take n, u.oneCell' = true
  apart : ∀ a, blk v = some a → a ≠ g

theorem splice_length' {α : Type} (L : List α) (off : Nat) (cs : List α) (h : off + cs.length ≤ L.length) : (splice L off cs).length = L.length := length_splice L off cs h

theorem two_splices {α : Type} (Z A T B : List α) (i : Nat) (hA : Z.take i = A) (hi : i ≤ Z.length) (h : i + T.length + B.length ≤ Z.length) :
    (splice (splice Z i T) (i + T.length) B).take (i + T.length + B.length) = A ++ T ++ B := by
  subst hA
  have e1 : (Z.take i).length = i := by rw [List.length_take]; omega
  have e2 : (splice Z i T).take (i + T.length) = Z.take i ++ T := by
    unfold splice
    rw [← List.append_assoc, List.take_append_of_le_length (by rw [List.length_append, e1]; exact Nat.le_refl _), List.take_of_length_le (by rw [List.length_append, e1]; exact Nat.le_refl _)]
  conv => lhs; rw [splice]
  rw [e2, ← List.append_assoc, List.take_append_of_le_length (by simp only [List.length_append, e1]; exact Nat.le_refl _), List.take_of_length_le (by simp only [List.length_append, e1]; exact Nat.le_refl _)]

theorem splice_after {α : Type} (L : List α) (off : Nat) (cs : List α) {q : Nat} (h : off + cs.length ≤ q) (hl : off + cs.length ≤ L.length) : (splice L off cs)[q]? = L[q]? := by
  unfold splice
  rw [← List.append_assoc, List.getElem?_append_right (by rw [List.length_append, List.length_take]; omega), List.length_append, List.length_take, List.getElem?_drop]
  congr 1
  omega
theorem grown_drew {w w' : World} {g : Nat} (h : w.drew.grownBy w' (some g)) : w.grownBy w' (some g) := ⟨h.os, h.tape, h.output, h.size, h.block⟩

theorem two_splices' {α : Type} (Z A T B : List α) (i : Nat) (hA : Z.take i = A) (h : i + T.length + B.length ≤ Z.length) :
    (splice (splice Z (i + T.length) B) i T).take (i + T.length + B.length) = A ++ T ++ B := by
  subst hA
  have e1 : (Z.take i).length = i := by rw [List.length_take]; omega
  have e0 : (splice Z (i + T.length) B).take i = Z.take i := by
    unfold splice
    rw [List.take_append_of_le_length (by rw [List.length_take]; omega), List.take_take, Nat.min_eq_left (by omega)]
  have e2 : (splice Z (i + T.length) B).drop (i + T.length) = B ++ Z.drop (i + T.length + B.length) := by
    unfold splice
    rw [List.drop_append_of_le_length (by rw [List.length_take]; omega), List.drop_of_length_le (by rw [List.length_take]; omega), List.nil_append]
  conv => lhs; rw [splice]
  rw [e0, e2, ← List.append_assoc, ← List.append_assoc, List.take_append_of_le_length (by simp only [List.length_append, e1]; exact Nat.le_refl _), List.take_of_length_le (by simp only [List.length_append, e1]; exact Nat.le_refl _)]

set_option maxHeartbeats 8000000 in
set_option maxRecDepth 100000 in
/-- There is no room: a new row. -/
theorem replaceB_any (base g cap n i j : Nat) (cur : List Value) (v : Value) (T : List Value) (w : World) (m : Nat) (hmm : T.length = m) (H : Mid base g cap n i j cur v T w) (hbig : cap < i + m + (n - j)) :
    Calls Try.prog 46 #[.slice (some ⟨g, 0, none⟩) n cap, .int .i64 (i : Int), .int .i64 (j : Int), v] w (ReplA base g (cur.take i ++ T ++ (cur.take n).drop j) w) := by
  obtain ⟨hg, hb, hcl, hm, hn, hnl, hij, hjn, hT, hv, hone, hap⟩ := H
  obtain ⟨i0, hi, hz0, hz1, hz2⟩ := info3 (P := Try.prog) info_row
  obtain ⟨X, hX⟩ := slice_lh (P := Try.prog) 63 29 Try.underlying63 hi (some ⟨g, 0, none⟩) n cap i j (by omega) (by omega)
  have hs1 := slice_to (P := Try.prog) 63 29 Try.underlying63 hi (some ⟨g, 0, none⟩) n cap i (by omega) .i64
  obtain ⟨aj, hsj, haj⟩ := slice_from (P := Try.prog) 63 29 Try.underlying63 hi hz1 g 0 n cap j (by omega)
  have haj' := haj (by omega)
  rw [Nat.zero_add] at haj'
  subst haj'
  obtain ⟨vo, vc, rfl, hvl⟩ : ∃ vo vc, v = .slice vo m vc ∧ (vo = none → m = 0) := by
    rw [← hmm]
    rcases hv.form with ⟨rfl, rfl⟩ | ⟨_, g2, rfl, _⟩
    · exact ⟨none, 0, rfl, fun _ => rfl⟩
    · exact ⟨_, _, rfl, fun h => by cases h⟩
  have HV := hid (hv.rws (by unfold maxLen; omega))
  have hf := flat_one T
  have hvc : ∀ ad, vo = some ad → ∀ (k : Nat) u, T[k]? = some u → w.cell? (ad.add k) = some u := fun ad h => by
    obtain ⟨ao, c, h1, h2, h3, h4, h5, h6⟩ := HV.out
    simp only [List.length_map, Value.slice.injEq] at h1
    rw [hf] at h6
    exact h6 ad (by rw [← h1.1]; exact h)
  have HVC := hid hvc
  have HVL := hid hvl
  have H1 := hid hv.one
  have HAP := hid hap
  have HG := hid hg
  have HONE := hid hone
  obtain ⟨im, him⟩ : ∃ x, x = i + m := ⟨_, rfl⟩
  obtain ⟨tot, htot⟩ : ∃ x, x = im + (n - j) := ⟨_, rfl⟩
  obtain ⟨k, hk⟩ : ∃ x, x = m + (n - j) := ⟨_, rfl⟩
  have hw1 : IntKind.i64.wrap ((i : Int) + (m : Int)) = (im : Int) := by rw [IntKind.wrap_i64]; omega
  have hw2 : IntKind.i64.wrap ((im : Int) + ((n - j : Nat) : Int)) = (tot : Int) := by rw [IntKind.wrap_i64]; omega
  have hw3 : IntKind.i64.wrap ((tot : Int) - (i : Int)) = (k : Int) := by rw [IntKind.wrap_i64]; omega
  have hb1 : ((i : Int) == (j : Int)) = false := beq_eq_false_iff_ne.2 (by omega)
  have hb2 : ((j : Int) == (n : Int)) = false := beq_eq_false_iff_ne.2 (by omega)
  have hgt : (cap : Int) < (tot : Int) := by omega
  rw [hmm] at hT
  have HE := hid (And.intro him (And.intro htot hk))
  clear hv hvc hvl hap hg hone haj him htot hk hbig
  go_enter Try.func46, Try.ntmps46
  go_wp2_with fail
  go_quiet (fail)
  rename_i nq
  have HGW : Hid (∀ W, W = w.drewN nq → w.grownBy W (some g) ∧ W.heap[g]? = some (.cells cur.toArray 29 (0, 0)) ∧ W.heap.size = w.heap.size) := fun W h => by subst h; exact ⟨⟨rfl, rfl, rfl, Nat.le_refl _, fun _ _ _ => rfl⟩, HG.out, rfl⟩
  obtain ⟨q1, q2, q3⟩ := HGW.out _ rfl
  generalize w.drewN nq = w1 at *
  have Q1 := hid q1
  have Q2 := hid q2
  have Q3 := hid q3
  clear q1 q2 q3
  have hto : (cur.take i).length = i := by have := hcl; rw [List.length_take]; omega
  have hold : (Builtin.firstCells i0.size i (.slice (some ⟨g, 0, none⟩) i cap)).run Try.prog w1.drew = .ok (cur.take i).toArray w1.drew := run_firstCells_some (P := Try.prog) (w := w1.drew) i0.size i ⟨g, 0, none⟩ i cap (cur.take i) (by rw [hto, hz1, Nat.mul_one]) (fun p u hu => by
    rw [WideShapes.add_plain, Nat.zero_add, cell_of_row w1.drew g p _ _ (0, 0) Q2.out]
    rw [List.getElem?_take] at hu
    split at hu
    · simpa using hu
    · cases hu)
  have hnx : Builtin.nextslicecap (i + k) cap * i0.bytes ≤ 281474976710656 := growslice_fits (by have := HE.out; omega) (by rw [hz2]; have := HE.out; omega)
  have happ := Lib.run_append_grow_zeros (P := Try.prog) w1 63 3 63 29 i0 _ .i64 .i64 Try.underlying63 Try.underlying3 hi hz0 (some ⟨g, 0, none⟩) i cap (cur.take i) hold k (by have := HE.out; omega) (by rw [hz1]; decide) (by have := HE.out; omega) (by have := HE.out; omega) (by rw [hz2]; have := HE.out; omega) hnx
  obtain ⟨ncap, hnc⟩ : ∃ x, x = grownCap w1 (i + k) cap 29 := ⟨_, rfl⟩
  have hnc1 : i + k ≤ ncap := by rw [hnc]; exact grownCap_ge _ _ _ _
  have hnc2 : ncap ≤ maxLen := by rw [hnc]; exact grownCap_le_maxLen _ _ _ _ (by unfold maxLen; have := HE.out; omega)
  obtain ⟨Z, hZ⟩ : ∃ Z : List Value, Z = ((cur.take i).toArray ++ Builtin.zeroCells (Value.slice none 0 0).cells k ++ Builtin.zeroCells (Value.slice none 0 0).cells (ncap - (i + k))).toList := ⟨_, rfl⟩
  have hZl : Z.length = ncap := by rw [hZ]; simp only [Array.length_toList, Array.size_append, zero_len, List.size_toArray, hto]; show i + k * 1 + (ncap - (i + k)) * 1 = ncap; omega
  have hZt : Z.take i = cur.take i := by
    rw [hZ, Array.toList_append, Array.toList_append, List.append_assoc, List.take_append_of_le_length (by simp [hto]), List.take_of_length_le (by simp [hto])]
  have hZ1 : (cur.take i).toArray ++ Builtin.zeroCells (Value.slice none 0 0).cells k ++ Builtin.zeroCells (Value.slice none 0 0).cells (ncap - (i + k)) = Z.toArray := by rw [hZ]
  have hk2 : i + k = tot := by have := HE.out; omega
  rw [← hnc, hZ1, hk2] at happ
  rw [hk2] at hnc1
  have HZ := hid (And.intro hZl hZt)
  have HW2 : Hid ((w1.drew.alloc (.cells Z.toArray 29)).heap[w1.heap.size]? = some (.cells Z.toArray 29 (0, 0))) := heap_alloc_new w1.drew _
  have GW2 : Hid (w1.grownBy (w1.drew.alloc (.cells Z.toArray 29)) none) := grown_below ((Below.drew (Below.refl _ w1)).alloc (Nat.le_refl _) _) none
  generalize w1.drew.alloc (.cells Z.toArray 29) = w2 at *
  obtain ⟨ai, hsi, hai⟩ := slice_from (P := Try.prog) 63 29 Try.underlying63 hi hz1 w1.heap.size 0 tot ncap i (by have := HE.out; omega)
  obtain ⟨am, hsm, ham⟩ := slice_from (P := Try.prog) 63 29 Try.underlying63 hi hz1 w1.heap.size 0 tot ncap im (by have := HE.out; omega)
  rw [Nat.zero_add] at hai ham
  obtain ⟨w3, hcp1, h3, g3⟩ := run_copy_rows (P := Try.prog) w2 63 63 29 Try.underlying63 (by kernel_rfl) ai vo (tot - i) (ncap - i) m vc w1.heap.size i Z 29 HW2.out T
    (by show T.length = Nat.min m (tot - i); rw [hmm]; have := HE.out; show m = min m (tot - i); omega)
    (fun hp => ⟨hai (by have := HE.out; omega), by
      cases hvo : vo with
      | none => have := HVL.out hvo; omega
      | some ad => exact ⟨ad, rfl, fun p u hu => cell_grown GW2.out (cell_grown' Q1.out (HVC.out ad hvo p u hu) (fun e => HAP.out ad.block (by rw [hvo]; rfl) (by rw [add_block] at e; exact e)))⟩⟩)
    (by rw [HZ.out.1, hmm]; have := HE.out; omega) H1.out
  have hsrc3 : w3.drew.heap[g]? = some (.cells cur.toArray 29 (0, 0)) := heap_kept g3 (heap_kept GW2.out Q2.out (by simp)) (by have := lt_of_block Q2.out; simp; omega)
  have hdl : ((cur.take n).drop j).length = n - j := by rw [List.length_drop, List.length_take]; omega
  obtain ⟨w4, hcp2, h4, g4⟩ := run_copy_rows (P := Try.prog) w3.drew 63 63 29 Try.underlying63 (by kernel_rfl) am (some ⟨g, j, none⟩) (tot - im) (ncap - im) (n - j) (cap - j) w1.heap.size im (splice Z i T) 29 h3 ((cur.take n).drop j)
    (by rw [hdl]; have := HE.out; show n - j = min (n - j) (tot - im); omega)
    (fun hp => ⟨ham (by have := HE.out; omega), _, rfl, fun p u hu => by
      rw [WideShapes.add_plain, cell_of_row w3.drew g _ _ _ (0, 0) hsrc3]
      rw [List.getElem?_drop, List.getElem?_take] at hu
      split at hu
      · simpa using hu
      · cases hu⟩)
    (by rw [length_splice _ _ _ (by rw [HZ.out.1, hmm]; have := HE.out; omega), HZ.out.1, hdl]; have := HE.out; omega)
    (fun u hu => HONE.out u (List.mem_of_mem_drop hu))
  have hcp1' := hcp1 3
  have hcp2' := hcp2 3
  rw [hmm] at hcp1'
  rw [hdl] at hcp2'
  have H4 := hid h4
  have G4 : Hid (w.grownBy w4 (some g)) := grown_trans Q1.out (grown_new GW2.out g3 g4)
  clear hai ham hold hnx hi hz0 hz1 hz2 hZ hZl hZt hZ1 hnc hto hcp1 hcp2 h3 h4 hsrc3 hdl
  go_wp2_with (at_builtin; refine Lib.wpList_append_run _ rfl _ _ _ _ rfl _ _ rfl rfl _ _ happ ?_)
  go_region
  all_goals (go_wp2_with fail)
  go_ret
  have hdl : ((cur.take n).drop j).length = n - j := by rw [List.length_drop, List.length_take]; omega
  have e := HE.out
  have hl1 : (splice Z i T).length = ncap := by rw [length_splice _ _ _ (by rw [HZ.out.1, hmm]; omega), HZ.out.1]
  have hl2 : (splice (splice Z i T) im ((cur.take n).drop j)).length = ncap := by rw [length_splice _ _ _ (by rw [hl1, hdl]; omega), hl1]
  have ho := own_of (base := base) (n := tot) H4.out (by have := lt_of_block Q2.out; omega) hl2 hnc2 hnc1
  have ht := two_splices Z (cur.take i) T ((cur.take n).drop j) i HZ.out.2 (by rw [HZ.out.1]; omega) (by rw [HZ.out.1, hmm, hdl]; omega)
  rw [hmm, ← e.1, hdl, ← e.2.1] at ht
  rw [ht] at ho
  refine ⟨_, rfl, ?_, G4.out, fun k hk => .inr (by have h9 : w1.heap.size = k := (by simpa [Value.ownBlock] using hk); have h8 : w1.heap.size = w.heap.size := Q3.out; omega)⟩
  have hLl : (cur.take i ++ T ++ (cur.take n).drop j).length = tot := by rw [List.length_append, List.length_append, hdl, hmm, List.length_take]; omega
  rw [hLl]
  exact ho
set_option maxHeartbeats 8000000 in
set_option maxRecDepth 100000 in
/-- What comes fits into what goes. -/
theorem replaceC_any (base g cap n i j : Nat) (cur : List Value) (v : Value) (T : List Value) (w : World) (m : Nat) (hmm : T.length = m) (H : Mid base g cap n i j cur v T w) (hfit : i + m + (n - j) ≤ cap) (hle : i + m ≤ j) :
    Calls Try.prog 46 #[.slice (some ⟨g, 0, none⟩) n cap, .int .i64 (i : Int), .int .i64 (j : Int), v] w (ReplA base g (cur.take i ++ T ++ (cur.take n).drop j) w) := by
  obtain ⟨hg, hb, hcl, hm, hn, hnl, hij, hjn, hT, hv, hone, hap⟩ := H
  obtain ⟨i0, hi, hz0, hz1, hz2⟩ := info3 (P := Try.prog) info_row
  obtain ⟨X, hX⟩ := slice_lh (P := Try.prog) 63 29 Try.underlying63 hi (some ⟨g, 0, none⟩) n cap i j (by omega) (by omega)
  have hs1 := slice_to (P := Try.prog) 63 29 Try.underlying63 hi (some ⟨g, 0, none⟩) n cap i (by omega) .i64
  obtain ⟨aj, hsj, haj⟩ := slice_from (P := Try.prog) 63 29 Try.underlying63 hi hz1 g 0 n cap j (by omega)
  have haj' := haj (by omega)
  rw [Nat.zero_add] at haj'
  subst haj'
  obtain ⟨vo, vc, rfl, hvl⟩ : ∃ vo vc, v = .slice vo m vc ∧ (vo = none → m = 0) := by
    rw [← hmm]
    rcases hv.form with ⟨rfl, rfl⟩ | ⟨_, g2, rfl, _⟩
    · exact ⟨none, 0, rfl, fun _ => rfl⟩
    · exact ⟨_, _, rfl, fun h => by cases h⟩
  have HV := hid (hv.rws (by unfold maxLen; omega))
  have hf := flat_one T
  have hvc : ∀ ad, vo = some ad → ∀ (k : Nat) u, T[k]? = some u → w.cell? (ad.add k) = some u := fun ad h => by
    obtain ⟨ao, c, h1, h2, h3, h4, h5, h6⟩ := HV.out
    simp only [List.length_map, Value.slice.injEq] at h1
    rw [hf] at h6
    exact h6 ad (by rw [← h1.1]; exact h)
  have HVC := hid hvc
  have HVL := hid hvl
  have H1 := hid hv.one
  have HAP := hid hap
  have HG := hid hg
  have HONE := hid hone
  obtain ⟨im, him⟩ : ∃ x, x = i + m := ⟨_, rfl⟩
  obtain ⟨tot, htot⟩ : ∃ x, x = im + (n - j) := ⟨_, rfl⟩
  have hw1 : IntKind.i64.wrap ((i : Int) + (m : Int)) = (im : Int) := by rw [IntKind.wrap_i64]; omega
  have hw2 : IntKind.i64.wrap ((im : Int) + ((n - j : Nat) : Int)) = (tot : Int) := by rw [IntKind.wrap_i64]; omega
  have hb1 : ((i : Int) == (j : Int)) = false := beq_eq_false_iff_ne.2 (by omega)
  have hb2 : ((j : Int) == (n : Int)) = false := beq_eq_false_iff_ne.2 (by omega)
  have hgt : ¬ ((cap : Int) < (tot : Int)) := by omega
  have hij2 : (im : Int) ≤ (j : Int) := by omega
  rw [hmm] at hT
  have HE := hid (And.intro him htot)
  have HFIT : Hid (tot ≤ cap) := by show _ ≤ _; omega
  have HCL := hid hcl
  have hst := slice_to (P := Try.prog) 63 29 Try.underlying63 hi (some ⟨g, 0, none⟩) n cap tot (by omega) .i64
  obtain ⟨ai, hsi, hai⟩ := slice_from (P := Try.prog) 63 29 Try.underlying63 hi hz1 g 0 tot cap i (by omega)
  obtain ⟨am, hsm, ham⟩ := slice_from (P := Try.prog) 63 29 Try.underlying63 hi hz1 g 0 tot cap im (by omega)
  rw [Nat.zero_add] at hai ham
  have ham' := ham (by omega)
  subst ham'
  have HAI := hid hai
  obtain ⟨at', hsat, hat⟩ := slice_from (P := Try.prog) 63 29 Try.underlying63 hi hz1 g 0 n cap tot (by omega)
  rw [Nat.zero_add] at hat
  have HAT := hid hat
  clear hat
  have HIJ := hid (And.intro hij hjn)
  clear hv hvc hvl hap hg hone haj him htot hai ham
  go_enter Try.func46, Try.ntmps46
  go_wp2_with fail
  go_quiet (fail)
  rename_i nq
  have HGW : Hid (∀ W, W = w.drewN nq → w.grownBy W (some g) ∧ W.heap[g]? = some (.cells cur.toArray 29 (0, 0)) ∧ W.heap.size = w.heap.size) := fun W h => by subst h; exact ⟨⟨rfl, rfl, rfl, Nat.le_refl _, fun _ _ _ => rfl⟩, HG.out, rfl⟩
  obtain ⟨q1, q2, q3⟩ := HGW.out _ rfl
  generalize w.drewN nq = w1 at *
  have Q1 := hid q1
  have Q2 := hid q2
  have Q3 := hid q3
  clear q1 q2 q3
  have hdl : ((cur.take n).drop j).length = n - j := by have := HCL.out; rw [List.length_drop, List.length_take]; omega
  have hone2 : ∀ u ∈ (cur.take n).drop j, u.oneCell' = true := fun u hu => HONE.out u (List.mem_of_mem_drop hu)
  obtain ⟨w3, hcp1, h3, g3⟩ := run_copy_rows (P := Try.prog) w1 63 63 29 Try.underlying63 (by kernel_rfl) ai vo (tot - i) (cap - i) m vc g i cur 29 Q2.out T
    (by show T.length = Nat.min m (tot - i); rw [hmm]; have := HE.out; show m = min m (tot - i); omega)
    (fun hp => ⟨HAI.out (by have := HE.out; omega), by
      cases hvo : vo with
      | none => have := HVL.out hvo; omega
      | some ad => exact ⟨ad, rfl, fun p u hu => cell_grown' Q1.out (HVC.out ad hvo p u hu) (fun e => HAP.out ad.block (by rw [hvo]; rfl) (by rw [add_block] at e; exact e))⟩⟩)
    (by rw [HCL.out, hmm]; have := HE.out; omega) H1.out
  obtain ⟨w4, hcp2, h4, g4⟩ := run_copy_rows (P := Try.prog) w3.drew 63 63 29 Try.underlying63 (by kernel_rfl) (some ⟨g, im, none⟩) (some ⟨g, j, none⟩) (tot - im) (cap - im) (n - j) (cap - j) g im (splice cur i T) 29 h3 ((cur.take n).drop j)
    (by rw [hdl]; have := HE.out; show n - j = min (n - j) (tot - im); omega)
    (fun hp => ⟨rfl, _, rfl, fun p u hu => by
      rw [WideShapes.add_plain, cell_of_row w3.drew g _ _ _ (0, 0) h3]
      rw [List.getElem?_drop, List.getElem?_take] at hu
      split at hu
      · simpa [splice_after cur i T (by rw [hmm]; have := HE.out; omega : i + T.length ≤ j + p) (by rw [hmm, HCL.out]; have := HE.out; have := HFIT.out; omega)] using hu
      · cases hu⟩)
    (by rw [length_splice _ _ _ (by rw [HCL.out, hmm]; have := HE.out; have := HFIT.out; omega), HCL.out, hdl]; have := HE.out; have := HFIT.out; omega)
    hone2
  have hl1 : (splice cur i T).length = cap := by rw [length_splice _ _ _ (by rw [HCL.out, hmm]; have := HE.out; have := HFIT.out; omega), HCL.out]
  have hl2 : (splice (splice cur i T) im ((cur.take n).drop j)).length = cap := by rw [length_splice _ _ _ (by rw [hl1, hdl]; have := HE.out; have := HFIT.out; omega), hl1]
  have ho := own_of (base := base) (n := tot) h4 hb hl2 hm (by have := HFIT.out; omega)
  have ht := two_splices cur (cur.take i) T ((cur.take n).drop j) i rfl (by rw [HCL.out]; have := HFIT.out; have := HE.out; omega) (by rw [HCL.out, hmm, hdl]; have := HFIT.out; have := HE.out; omega)
  rw [hmm, ← HE.out.1, hdl, ← HE.out.2] at ht
  rw [ht] at ho
  obtain ⟨w5, hcl5, o5, g5⟩ := run_clear_row (P := Try.prog) (w := w4) 63 29 Try.underlying63 (.slice none 0 0) 24 info_row rfl rfl at' (n - tot) (cap - tot) base g tot cap _ ho (fun h9 => ⟨tot, HAT.out (by omega), Nat.le_refl _, by omega⟩)
  have hcl0 := hcl5 0
  have O5 := hid o5
  have G5 : Hid (w.grownBy w5 (some g)) := grown_trans (grown_trans (grown_trans Q1.out g3) (grown_drew g4)) g5
  have hcp1' := hcp1 3
  have hcp2' := hcp2 3
  rw [hmm] at hcp1'
  rw [hdl] at hcp2'
  clear hi hz0 hz1 hz2 hcp1 hcp2 h3 h4 hcl5 o5 g3 g4 g5 ho ht hl1 hl2 hone2 hdl
  go_wp2_with fail
  go_region
  all_goals (go_wp2_with fail)
  go_ret
  have hdl : ((cur.take n).drop j).length = n - j := by have := HCL.out; rw [List.length_drop, List.length_take]; omega
  refine ⟨_, rfl, ?_, G5.out, fun k hk => .inl (by simpa [Value.ownBlock] using hk.symm)⟩
  have hLl : (cur.take i ++ T ++ (cur.take n).drop j).length = tot := by have := HE.out; have := HCL.out; have := HFIT.out; rw [List.length_append, List.length_append, hdl, hmm, List.length_take]; omega
  rw [hLl]
  exact O5.out

set_option maxHeartbeats 8000000 in
set_option maxRecDepth 100000 in
/-- What comes is longer than what goes. -/
theorem replaceD_any (base g cap n i j : Nat) (cur : List Value) (v : Value) (T : List Value) (w : World) (m : Nat) (hmm : T.length = m) (H : Mid base g cap n i j cur v T w) (hfit : i + m + (n - j) ≤ cap) (hlt : j < i + m) :
    Calls Try.prog 46 #[.slice (some ⟨g, 0, none⟩) n cap, .int .i64 (i : Int), .int .i64 (j : Int), v] w (ReplA base g (cur.take i ++ T ++ (cur.take n).drop j) w) := by
  obtain ⟨hg, hb, hcl, hm, hn, hnl, hij, hjn, hT, hv, hone, hap⟩ := H
  obtain ⟨i0, hi, hz0, hz1, hz2⟩ := info3 (P := Try.prog) info_row
  obtain ⟨X, hX⟩ := slice_lh (P := Try.prog) 63 29 Try.underlying63 hi (some ⟨g, 0, none⟩) n cap i j (by omega) (by omega)
  have hs1 := slice_to (P := Try.prog) 63 29 Try.underlying63 hi (some ⟨g, 0, none⟩) n cap i (by omega) .i64
  obtain ⟨aj, hsj, haj⟩ := slice_from (P := Try.prog) 63 29 Try.underlying63 hi hz1 g 0 n cap j (by omega)
  have haj' := haj (by omega)
  rw [Nat.zero_add] at haj'
  subst haj'
  obtain ⟨vo, vc, rfl, hvl⟩ : ∃ vo vc, v = .slice vo m vc ∧ (vo = none → m = 0) := by
    rw [← hmm]
    rcases hv.form with ⟨rfl, rfl⟩ | ⟨_, g2, rfl, _⟩
    · exact ⟨none, 0, rfl, fun _ => rfl⟩
    · exact ⟨_, _, rfl, fun h => by cases h⟩
  have HV := hid (hv.rws (by unfold maxLen; omega))
  have hf := flat_one T
  have hvc : ∀ ad, vo = some ad → ∀ (k : Nat) u, T[k]? = some u → w.cell? (ad.add k) = some u := fun ad h => by
    obtain ⟨ao, c, h1, h2, h3, h4, h5, h6⟩ := HV.out
    simp only [List.length_map, Value.slice.injEq] at h1
    rw [hf] at h6
    exact h6 ad (by rw [← h1.1]; exact h)
  have HVC := hid hvc
  have HVL := hid hvl
  have H1 := hid hv.one
  have HAP := hid hap
  have HG := hid hg
  have HONE := hid hone
  obtain ⟨im, him⟩ : ∃ x, x = i + m := ⟨_, rfl⟩
  obtain ⟨tot, htot⟩ : ∃ x, x = im + (n - j) := ⟨_, rfl⟩
  have hw1 : IntKind.i64.wrap ((i : Int) + (m : Int)) = (im : Int) := by rw [IntKind.wrap_i64]; omega
  have hw2 : IntKind.i64.wrap ((im : Int) + ((n - j : Nat) : Int)) = (tot : Int) := by rw [IntKind.wrap_i64]; omega
  have hb1 : ((i : Int) == (j : Int)) = false := beq_eq_false_iff_ne.2 (by omega)
  have hb2 : ((j : Int) == (n : Int)) = false := beq_eq_false_iff_ne.2 (by omega)
  have hgt : ¬ ((cap : Int) < (tot : Int)) := by omega
  have hij2 : ¬ (im : Int) ≤ (j : Int) := by omega
  rw [hmm] at hT
  have HE := hid (And.intro him htot)
  have HFIT : Hid (tot ≤ cap) := by show _ ≤ _; omega
  have HCL := hid hcl
  have hst := slice_to (P := Try.prog) 63 29 Try.underlying63 hi (some ⟨g, 0, none⟩) n cap tot (by omega) .i64
  obtain ⟨ai, hsi, hai⟩ := slice_from (P := Try.prog) 63 29 Try.underlying63 hi hz1 g 0 tot cap i (by omega)
  obtain ⟨am, hsm, ham⟩ := slice_from (P := Try.prog) 63 29 Try.underlying63 hi hz1 g 0 tot cap im (by omega)
  rw [Nat.zero_add] at hai ham
  have ham' := ham (by omega)
  subst ham'
  have HAI := hid hai
  have hov : ∃ g2, vo = some ⟨g2, 0, none⟩ ∧ g2 ≠ g ∧ w.heap[g2]? = some (.cells T.toArray 29 (0, 0)) := by
    rcases hv.form with ⟨h9, _⟩ | ⟨_, g2, h9, h8⟩
    · rw [h9] at hmm; simp at hmm; omega
    · simp only [Value.slice.injEq] at h9
      exact ⟨g2, h9.1, hap g2 (by rw [h9.1]; rfl), h8⟩
  obtain ⟨g2, rfl, hne2, hg2⟩ := hov
  have HOV := hid (And.intro hne2 hg2)
  clear hne2 hg2
  have HIJ := hid (And.intro hij hjn)
  clear hv hvc hvl hap hg hone haj him htot hai ham
  go_enter Try.func46, Try.ntmps46
  go_wp2_with fail
  go_quiet (fail)
  rename_i nq
  have HGW : Hid (∀ W, W = w.drewN nq → w.grownBy W (some g) ∧ W.heap[g]? = some (.cells cur.toArray 29 (0, 0)) ∧ W.heap.size = w.heap.size) := fun W h => by subst h; exact ⟨⟨rfl, rfl, rfl, Nat.le_refl _, fun _ _ _ => rfl⟩, HG.out, rfl⟩
  obtain ⟨q1, q2, q3⟩ := HGW.out _ rfl
  generalize w.drewN nq = w1 at *
  have Q1 := hid q1
  have Q2 := hid q2
  have Q3 := hid q3
  clear q1 q2 q3
  have hdl : ((cur.take n).drop j).length = n - j := by have := HCL.out; rw [List.length_drop, List.length_take]; omega
  have hone2 : ∀ u ∈ (cur.take n).drop j, u.oneCell' = true := fun u hu => HONE.out u (List.mem_of_mem_drop hu)
  have hT2 : w1.heap[g2]? = some (.cells T.toArray 29 (0, 0)) := heap_kept Q1.out HOV.out.2 (by have := HOV.out.1; simpa using this)
  have hovr := Lib.run_overlaps_apart (P := Try.prog) w1 63 4 29 Try.underlying63 1 (fun w => by simp [Go.sizeOf, typeInfo, hi, hz1]) ⟨g, im, none⟩ ⟨g2, 0, none⟩ (tot - im) (cap - im) m vc (fun e => HOV.out.1 e.symm) 29 29 cap m
    (by simp [World.shape?, Q2.out, HCL.out]) (by simp [World.shape?, hT2, hmm]) (by have := HE.out; have := HIJ.out; omega) (by simp [World.frozen?, Q2.out]) (by simp [World.frozen?, Q2.out])
  obtain ⟨w3, hcp1, h3, g3⟩ := run_copy_rows (P := Try.prog) w1.drew 63 63 29 Try.underlying63 (by kernel_rfl) (some ⟨g, im, none⟩) (some ⟨g, j, none⟩) (tot - im) (cap - im) (n - j) (cap - j) g im cur 29 Q2.out ((cur.take n).drop j)
    (by rw [hdl]; have := HE.out; show n - j = min (n - j) (tot - im); omega)
    (fun hp => ⟨rfl, _, rfl, fun p u hu => by
      rw [WideShapes.add_plain, cell_of_row w1.drew g _ _ _ (0, 0) Q2.out]
      rw [List.getElem?_drop, List.getElem?_take] at hu
      split at hu
      · simpa using hu
      · cases hu⟩)
    (by rw [HCL.out, hdl]; have := HE.out; have := HFIT.out; omega)
    hone2
  have hT3 : w3.heap[g2]? = some (.cells T.toArray 29 (0, 0)) := heap_kept g3 (show w1.drew.heap[g2]? = _ from hT2) (by have := HOV.out.1; simpa using this)
  obtain ⟨w4, hcp2, h4, g4⟩ := run_copy_rows (P := Try.prog) w3 63 63 29 Try.underlying63 (by kernel_rfl) ai (some ⟨g2, 0, none⟩) (tot - i) (cap - i) m vc g i (splice cur im ((cur.take n).drop j)) 29 h3 T
    (by show T.length = Nat.min m (tot - i); rw [hmm]; have := HE.out; show m = min m (tot - i); omega)
    (fun hp => ⟨HAI.out (by have := HE.out; have := HFIT.out; have := HIJ.out; omega), _, rfl, fun p u hu => by
      rw [WideShapes.add_plain, Nat.zero_add, cell_of_row w3 g2 p _ _ (0, 0) hT3]
      simpa using hu⟩)
    (by rw [length_splice _ _ _ (by rw [HCL.out, hdl]; have := HE.out; have := HFIT.out; omega), HCL.out, hmm]; have := HE.out; have := HFIT.out; omega)
    H1.out
  have hl1 : (splice cur im ((cur.take n).drop j)).length = cap := by rw [length_splice _ _ _ (by rw [HCL.out, hdl]; have := HE.out; have := HFIT.out; omega), HCL.out]
  have hl2 : (splice (splice cur im ((cur.take n).drop j)) i T).length = cap := by rw [length_splice _ _ _ (by rw [hl1, hmm]; have := HE.out; have := HFIT.out; omega), hl1]
  have ho := own_of (base := base) (n := tot) h4 hb hl2 hm (by have := HFIT.out; omega)
  have ht := two_splices' cur (cur.take i) T ((cur.take n).drop j) i rfl (by rw [HCL.out, hmm, hdl]; have := HFIT.out; have := HE.out; omega)
  rw [hmm, ← HE.out.1, hdl, ← HE.out.2] at ht
  rw [ht] at ho
  have O5 := hid ho
  have G5 : Hid (w.grownBy w4 (some g)) := grown_trans (grown_trans Q1.out (grown_drew g3)) g4
  have hcp1' := hcp1 3
  have hcp2' := hcp2 3
  rw [hmm] at hcp2'
  rw [hdl] at hcp1'
  clear hi hz0 hz1 hz2 hcp1 hcp2 h3 h4 g3 g4 ho ht hl1 hl2 hone2 hdl hT2 hT3
  go_wp2_with fail
  rw [run_callFunc_extern Try.func60 (by kernel_rfl) (by kernel_rfl) (by kernel_rfl) (e := Extern.SlicesOverlaps.overlaps #[63, 63] #[4]) (by kernel_rfl), hovr]
  simp only [Result.andThen]
  rw [Oper.upon_value]
  go_wp2_with fail
  go_region
  all_goals (go_wp2_with fail)
  go_ret
  have hdl : ((cur.take n).drop j).length = n - j := by have := HCL.out; rw [List.length_drop, List.length_take]; omega
  refine ⟨_, rfl, ?_, G5.out, fun k hk => .inl (by simpa [Value.ownBlock] using hk.symm)⟩
  have hLl : (cur.take i ++ T ++ (cur.take n).drop j).length = tot := by have := HE.out; have := HCL.out; have := HFIT.out; rw [List.length_append, List.length_append, hdl, hmm, List.length_take]; omega
  rw [hLl]
  exact O5.out

end Go.Proofs.Ytcgnghkjkdkmmaa
