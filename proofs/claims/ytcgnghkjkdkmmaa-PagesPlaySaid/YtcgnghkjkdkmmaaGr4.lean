/-
  PAGES: slices.Replace in a row of the call's own, all ways in one.
-/
import Derived.Test.YtcgnghkjkdkmmaaGr3
set_option linter.unusedVariables false
namespace Go.Proofs.Ytcgnghkjkdkmmaa
open Go.RowKit Go.Shelf

/-- What slices.Replace gives: a row of the call's own; of what lay only the old row's block may have turned. -/
def ReplR (base : Nat) (s : Value) (L : List Value) (w : World) (e : Ending) (w' : World) : Prop := ∃ r, e = .returned r ∧ w'.ownsRow base 29 1 r L.length L ∧ w.grownBy w' s.ownBlock ∧ ∀ k, r.ownBlock = some k → s.ownBlock = some k ∨ w.heap.size ≤ k

theorem Vals.slice {w : World} {v : Value} {T : List Value} (h : Vals w v T) : ∃ vo vc, v = .slice vo T.length vc ∧ (vo = none → T.length = 0) := by
  rcases h.form with ⟨rfl, rfl⟩ | ⟨_, g2, rfl, _⟩
  · exact ⟨none, 0, rfl, fun _ => rfl⟩
  · exact ⟨_, _, rfl, fun h => by cases h⟩

set_option maxHeartbeats 4000000 in
set_option maxRecDepth 100000 in
/-- Into nothing. -/
theorem insert0_any (base : Nat) (s : Value) (v : Value) (T : List Value) (w : World) (hs : w.ownsRow base 29 1 s 0 []) (hbase : base ≤ w.heap.size) (hT : T.length ≤ 1000) (hT0 : 0 < T.length) (hv : Vals w v T) :
    Calls Try.prog 59 #[s, .int .i64 0, v] w (fun e w' => ∃ r, e = .returned r ∧ w'.ownsRow base 29 1 r T.length T ∧ w.grownBy w' s.ownBlock ∧ ∀ k, r.ownBlock = some k → s.ownBlock = some k ∨ w.heap.size ≤ k) := by
  obtain ⟨i0, hi, hz0, hz1, hz2⟩ := info3 (P := Try.prog) info_row
  obtain ⟨so, sc, rfl⟩ : ∃ so sc, s = .slice so 0 sc := by
    rcases hs.2 with ⟨rfl, _⟩ | ⟨g, cap, _, rfl, _⟩
    · exact ⟨none, 0, rfl⟩
    · exact ⟨_, _, rfl⟩
  have HV := hid (hv.rws (by unfold maxLen; omega))
  obtain ⟨vo, vc, rfl, hvl⟩ := hv.slice
  have hX : ∃ X, ∀ W, (Instr.slice 63 (.slice so 0 sc) (some (.int .i64 0)) none none).run Try.prog W = .ok X W := by
    have ht' : Try.prog.underlying 63 = some (.slice (Try.prog.elem 63)) := by simp [Program.elem, Try.underlying63]
    have he : Try.prog.elem 63 = 29 := by simp [Program.elem, Try.underlying63]
    have hs' : ∀ W, (sizeOf 29).run Try.prog W = .ok i0.size W := fun W => by simp [sizeOf, typeInfo, hi]
    refine ⟨sliced so 0 0 sc i0.size, fun W => ?_⟩
    rw [run_slice_l W _ _ _ _ ht' .i64 _ (by omega) (by omega), he, hs']
    rfl
  obtain ⟨X, hX⟩ := hX
  have hb : ((T.length : Int) == 0) = false := beq_eq_false_iff_ne.2 (by omega)
  have HO := hid hs
  have hf := flat_one T
  clear hv hs hvl
  go_enter Try.func59, Try.ntmps59
  go_wp2_with (first
    | (at_builtin; refine wp_rapp2 rfl _ _ 63 rfl base 1 24 29 Try.underlying63 _ info_row (by decide) (by decide) _ _ _ rfl HO.out _ (T.map fun u => [u]) rfl HV.out ?c1 ?c2 ?c3 ?_))
  case c1 => rw [List.length_map]; omega
  case c2 => rw [List.length_map]; unfold maxLen; omega
  case c3 => exact hbase
  intro v' w1 HO1 HG1 NW
  go_wp2_with fail
  go_ret
  have := HO1.out
  try simp only [List.length_map, hf, List.nil_append, Nat.zero_add] at this
  exact ⟨_, rfl, this, HG1.out, NW.out⟩

set_option maxHeartbeats 4000000 in
set_option maxRecDepth 100000 in
theorem replace0_any (base : Nat) (s : Value) (v : Value) (T : List Value) (w : World) (hs : w.ownsRow base 29 1 s 0 []) (hbase : base ≤ w.heap.size) (hT : T.length ≤ 1000) (hT0 : 0 < T.length) (hv : Vals w v T) :
    Calls Try.prog 46 #[s, .int .i64 0, .int .i64 0, v] w (fun e w' => ∃ r, e = .returned r ∧ w'.ownsRow base 29 1 r T.length T ∧ w.grownBy w' s.ownBlock ∧ ∀ k, r.ownBlock = some k → s.ownBlock = some k ∨ w.heap.size ≤ k) := by
  obtain ⟨i0, hi, hz0, hz1, hz2⟩ := info3 (P := Try.prog) info_row
  have C := insert0_any base s v T w hs hbase hT hT0 hv
  obtain ⟨so, sc, rfl⟩ : ∃ so sc, s = .slice so 0 sc := by
    rcases hs.2 with ⟨rfl, _⟩ | ⟨g, cap, _, rfl, _⟩
    · exact ⟨none, 0, rfl⟩
    · exact ⟨_, _, rfl⟩
  obtain ⟨vo, vc, rfl, hvl⟩ := hv.slice
  obtain ⟨X, hX⟩ := slice_lh (P := Try.prog) 63 29 Try.underlying63 hi so 0 sc 0 0 (Nat.le_refl _) (Nat.zero_le _)
  clear hv hs hvl hi hz0 hz1 hz2
  go_enter Try.func46, Try.ntmps46
  go_wp2_with (first | (go_at_call 59; refine C.mono ?_))
  rintro e w1 ⟨r, rfl, ho, hg, nw⟩
  have HO1 := hid ho
  have HG1 := hid hg
  have NW := hid nw
  clear ho hg nw
  go_wp2_with fail
  go_ret
  exact ⟨_, rfl, HO1.out, HG1.out, NW.out⟩

theorem own_new {w w' : World} {base : Nat} {e : TypeId} {size : Nat} {r : Value} {n : Nat} {L : List Value} (h : w'.ownsRow base e size r n L) : ∀ k, r.ownBlock = some k → base ≤ k := fun k hk => (h.lt k hk).1

/-- All ways. -/
theorem replace_any (base : Nat) (s : Value) (S : List Value) (v : Value) (T : List Value) (i j : Nat) (w : World) (hs : w.ownsRow base 29 1 s S.length S) (hS : S.length ≤ 1000000) (h1 : ∀ u ∈ S, u.oneCell' = true)
    (hbase : base ≤ w.heap.size) (hT : T.length ≤ 1000) (hv : Vals w v T) (hap : ∀ a, blk v = some a → s.ownBlock ≠ some a) (hij : i < j ∨ (S.length = 0 ∧ i = 0 ∧ j = 0 ∧ 0 < T.length)) (hj : j ≤ S.length) :
    Calls Try.prog 46 #[s, .int .i64 (i : Int), .int .i64 (j : Int), v] w (fun e w' => ∃ r, e = .returned r ∧ w'.ownsRow base 29 1 r (S.take i ++ T ++ S.drop j).length (S.take i ++ T ++ S.drop j) ∧ w.grownBy w' s.ownBlock ∧ ∀ k, r.ownBlock = some k → s.ownBlock = some k ∨ w.heap.size ≤ k) := by
  rcases hij with hij | ⟨h0, rfl, rfl, hT0⟩
  · obtain ⟨hSl, hrest⟩ := hs
    rcases hrest with ⟨_, h9⟩ | ⟨g, cap, cur, rfl, hb, hg, hn, hcm, hcs, htk⟩
    · omega
    · have hg' : w.heap[g]? = some (.cells cur.toList.toArray 29 (0, 0)) := by simpa using hg
      have hcl : cur.toList.length = cap := by simpa using hcs
      have hst : cur.toList.take S.length = S := by simpa using htk
      have hone : ∀ u ∈ cur.toList.take S.length, u.oneCell' = true := by rw [hst]; exact h1
      have hti : cur.toList.take i = S.take i := by rw [← hst, List.take_take, Nat.min_eq_left (by omega)]
      have fin : ∀ {e w'}, ReplA base g (cur.toList.take i ++ T ++ (cur.toList.take S.length).drop j) w e w' → ∃ r, e = .returned r ∧ w'.ownsRow base 29 1 r (S.take i ++ T ++ S.drop j).length (S.take i ++ T ++ S.drop j) ∧ w.grownBy w' (some g) ∧ ∀ k, r.ownBlock = some k → some g = some k ∨ w.heap.size ≤ k := by
        intro e w' ⟨r, h1, h2, h3, h4⟩
        rw [hst, hti] at h2
        exact ⟨r, h1, h2, h3, fun k hk => (h4 k hk).imp (fun e => by rw [e]) id⟩
      rcases Nat.lt_or_ge j S.length with hjn | hjn
      · have H : Mid base g cap S.length i j cur.toList v T w := ⟨hg', hb, hcl, hcm, hn, hS, hij, hjn, hT, hv, hone, fun a ha e => hap a ha (by rw [e]; rfl)⟩
        rcases Nat.lt_or_ge cap (i + T.length + (S.length - j)) with h2 | h2
        · exact (replaceB_any base g cap S.length i j cur.toList v T w T.length rfl H h2).mono fun e w' h => fin h
        · rcases Nat.lt_or_ge j (i + T.length) with h3 | h3
          · exact (replaceD_any base g cap S.length i j cur.toList v T w T.length rfl H h2 h3).mono fun e w' h => fin h
          · exact (replaceC_any base g cap S.length i j cur.toList v T w T.length rfl H h2 h3).mono fun e w' h => fin h
      · obtain rfl : j = S.length := by omega
        refine (replaceA_any base g cap S.length i cur.toList v T w hg' hb hcl hcm hn hS hij hT hv).mono fun e w' h => fin ?_
        rw [List.drop_of_length_le (l := cur.toList.take S.length) (by rw [List.length_take]; omega), List.append_nil]
        exact h
  · obtain rfl : S = [] := List.eq_nil_of_length_eq_zero h0
    simp only [List.take_nil, List.drop_nil, List.nil_append, List.append_nil]
    exact replace0_any base s v T w hs hbase hT hT0 hv
end Go.Proofs.Ytcgnghkjkdkmmaa
