import GoSem.Op.String
import Derived.Lib.Bytealg
import Derived.Test.YtafcbelkhhjcoaaRows
import Derived.WalkKit
import Derived.WalkSpells
import Derived.WalkLawsBesides
import Derived.Laws.AppendOwnNone
import Derived.Deep.Slices
import Derived.BigQuiet
import Derived.Deep.QuietTactic
import Derived.Deep.AppendLies
import Derived.Deep.RegionWith
import Derived.Shelf.Abstract
import Derived.Test.YtafcbelkhhjcoaaProg
import Derived.LaidEql
import Derived.Stop.Asserts
import Derived.RowKitTokens
import Derived.Lib.Bytes
import Derived.Deep.OwnRows
import Derived.OwnWalk
import Derived.ProofKit
import Derived.Lib.AppendZeros
import Derived.Deep.CutRange
import Derived.Deep.RegionHeld3
import Derived.OpenShut
import Derived.ShutString
import Derived.ChangeOld
import Derived.Below
import Derived.SizedLaws
import Derived.Deep.Strs
import Derived.Deep.RegionHeld
import Derived.Deep.RegionLaw
import Derived.Laws.OwnMore
import Derived.Laws.ResultCell
import Derived.BigRegion
import Derived.Laws.CopyOwn
import Derived.Lib.AppendZerosOnto
import Derived.Lib.Overlaps
import Derived.Deep.AppendSrc
import Derived.Deep.CutBlock
import Derived.Lib.SlBytesConst
import Derived.RangeFuncNested
import Derived.RangeFuncBound
import Derived.RangeFuncCalls
import Derived.RangeFuncLeaves
import Derived.Shelf.RegionOpen
import Derived.OwnWalkIn
import Derived.TacticsInMore
import Derived.LoopNIn
import Derived.LoopIn
import Derived.Laws.CopyRow
import Derived.Deep.MidRow
import Derived.Laws.MakeOwn
import Derived.IntWalk
import Derived.Test.YtafcbelkhhjcoaaHT1
import Derived.Test.YtafcbelkhhjcoaaHT2
import Derived.Test.YtafcbelkhhjcoaaHT3
import Derived.Test.YtafcbelkhhjcoaaHT4
set_option linter.unusedVariables false
set_option linter.unusedSimpArgs false
set_option linter.unusedVariables false
set_option linter.unusedSimpArgs false
set_option maxRecDepth 100000
namespace Go.Proofs.Ytafcbelkhhjcoaa
open Go.RowKit Go.Deep

/-- A slice of ints reads so. -/
def Is (w : World) (x : Value) (l : List Int) : Prop := ∃ ao c, x = .slice ao l.length c ∧ l.length ≤ maxLen ∧ ∀ (k : Nat) z, l[k]? = some z → ∃ b off, ao = some ⟨b, off, none⟩ ∧ w.cell? ⟨b, off + k, none⟩ = some (.int .i64 z)
theorem Is.old {w w' : World} {x : Value} {l : List Int} (h : Is w x l) (hb : Below w.heap.size w w') : Is w' x l := by
  obtain ⟨ao, c, e, h1, h2⟩ := h
  refine ⟨ao, c, e, h1, fun k z hk => ?_⟩
  obtain ⟨b, off, e2, h3⟩ := h2 k z hk
  exact ⟨b, off, e2, (hb.cell (block_cell h3)).trans h3⟩
theorem iplain1_eq (z : Int) (w : World) : Calls Try.prog 132 #[.int .i64 z, .int .i64 z] w (fun e w' => e = .returned (.bool true) ∧ w' = w) := by
  go_enter Try.func132, Try.ntmps132
  go_wp2_with fail
  go_ret
  exact ⟨by simp, rfl⟩
set_option maxHeartbeats 4000000 in
theorem isame_eq (x y : Value) (l : List Int) (w : World) (hx : Is w x l) (hy : Is w y l) :
    Calls Try.prog 131 #[x, y, .func (.func 132) #[] #[]] w (AnsP w (.bool true)) := by
  obtain ⟨ax, cx, rfl, hm, h1⟩ := hx
  obtain ⟨ay, cy, rfl, -, h2⟩ := hy
  have HX := hid h1
  have HY := hid h2
  have hlm : l.length ≤ 9223372036854775807 := by unfold maxLen at hm; omega
  clear h1 h2 hm
  go_enter Try.func131, Try.ntmps131
  go_wp2_with fail
  go_loopw [7] (fun i wr => ∃ k : Nat, k ≤ l.length ∧ i = .int .i64 k ∧ Hid (Below w.heap.size w wr)) (fun i _ => l.length - (intOf i).toNat)
  case atStart => exact ⟨0, by omega, rfl, hid (Below.refl _ _)⟩
  case round =>
    obtain ⟨k, hk, rfl, HB⟩ := hrel
    by_cases hlt : k < l.length
    · obtain ⟨z, hz⟩ : ∃ z, l[k]? = some z := ⟨_, List.getElem?_eq_getElem hlt⟩
      obtain ⟨b1, o1, rfl, c1⟩ := HX.out k z hz
      obtain ⟨b2, o2, rfl, c2⟩ := HY.out k z hz
      have d1 := (HB.out.cell (block_cell c1)).trans c1
      have d2 := (HB.out.cell (block_cell c2)).trans c2
      have C := fun W => iplain1_eq z W
      have hki : (k : Int) < (l.length : Int) := by omega
      clear c1 c2 hz
      go_upto_region 6 with fail
      go_region_with (first | (go_at_call 132; refine (C _).mono ?_; rintro e w2 ⟨rfl, rfl⟩))
      all_goals
        go_wp2_with fail
        go_roundw
        · exact ⟨k + 1, by omega, by go_num, hid HB.out.drew⟩
        · simp [intOf]; omega
    · obtain rfl : k = l.length := by omega
      go_wp2_with fail
      go_ret
      exact ⟨by simp, HB.out⟩
theorem iplain_eq (x y : Value) (l : List Int) (w : World) (hx : Is w x l) (hy : Is w y l) :
    Calls Try.prog 55 #[x, y] w (AnsP w (.bool true)) := by
  have C := isame_eq x y l w hx hy
  clear hx hy
  go_enter Try.func55, Try.ntmps55
  go_wp2_with (first | (go_at_call 131; refine C.mono ?_; rintro e w2 ⟨rfl, hb2⟩; have HB2 := hid hb2; clear hb2))
  go_ret
  exact ⟨rfl, HB2.out⟩
end Go.Proofs.Ytafcbelkhhjcoaa

set_option linter.unusedVariables false
set_option linter.unusedSimpArgs false
set_option maxRecDepth 100000
namespace Go.Proofs.Ytafcbelkhhjcoaa
open Go.RowKit Go.Deep

theorem bases_mem (z : Int) : ∀ n, z ∈ basesL n ↔ 1 ≤ z ∧ z ≤ (n : Int)
  | 0 => by simp [basesL]; omega
  | n + 1 => by
    show z ∈ basesL n ++ [(n : Int) + 1] ↔ _
    rw [List.mem_append, bases_mem z n, List.mem_singleton]
    omega
theorem bases_lt : ∀ n, (basesL n).Pairwise (· < ·)
  | 0 => List.Pairwise.nil
  | n + 1 => by
    show (basesL n ++ [(n : Int) + 1]).Pairwise _
    refine List.pairwise_append.2 ⟨bases_lt n, by simp, fun a ha b hb => ?_⟩
    have h1 := (bases_mem a n).1 ha
    have h2 := List.mem_singleton.1 hb
    omega
theorem met_mem2 {L : List Ow} {F T : List UInt8} {z : Int} : ∀ n, n ≤ L.length → (z ∈ metL L F T n ↔ ∃ (k : Nat) (o : Ow), k < n ∧ L[k]? = some o ∧ meetB F T o.f (toL L k) = true ∧ o.g = z)
  | 0, _ => by simp [metL]
  | n + 1, hn => by
    obtain ⟨o, ho⟩ : ∃ o, L[n]? = some o := ⟨_, List.getElem?_eq_getElem (by omega)⟩
    rw [met_step ho, List.mem_append, met_mem2 n (by omega)]
    constructor
    · rintro (⟨k, u, h1, h2, h3, h4⟩ | h)
      · exact ⟨k, u, by omega, h2, h3, h4⟩
      · split at h
        · rename_i hm
          exact ⟨n, o, by omega, ho, hm, (List.mem_singleton.1 h).symm⟩
        · cases h
    · rintro ⟨k, u, h1, h2, h3, h4⟩
      rcases Nat.lt_or_ge k n with hlt | hge
      · exact .inl ⟨k, u, hlt, h2, h3, h4⟩
      · obtain rfl : k = n := by omega
        rw [ho] at h2
        injection h2 with h2
        subst h2
        right
        rw [if_pos h3]
        exact List.mem_singleton.2 h4.symm
theorem met_nodup {R : Rou} (h : RtOk R) {F T : List UInt8} : ∀ n, n ≤ R.sp.length → (metL R.sp F T n).Nodup
  | 0, _ => List.Pairwise.nil
  | n + 1, hn => by
    obtain ⟨o, ho⟩ : ∃ o, R.sp[n]? = some o := ⟨_, List.getElem?_eq_getElem (by omega)⟩
    rw [met_step ho]
    refine List.pairwise_append.2 ⟨met_nodup h n (by omega), by split <;> simp, fun a ha b hb => ?_⟩
    obtain ⟨k, u, h1, h2, -, h4⟩ := (met_mem2 n (by omega)).1 ha
    split at hb
    · have hb2 := List.mem_singleton.1 hb
      intro e
      have e1 := (h.grp k u h2).2.2
      have e2 := (h.grp n o ho).2.2
      rw [h4, e, hb2, e2] at e1
      omega
    · cases hb
theorem gm_mem {R : Rou} {F T : List UInt8} {z : Int} : ∀ n, (z ∈ gmL R F T n ↔ ∃ k : Nat, k < n ∧ z = R.base + 1 + (k : Int) ∧ gmeet R F T z = true)
  | 0 => by simp [gmL]
  | n + 1 => by
    show z ∈ gmL R F T n ++ _ ↔ _
    rw [List.mem_append, gm_mem n]
    constructor
    · rintro (⟨k, h1, h2, h3⟩ | h)
      · exact ⟨k, by omega, h2, h3⟩
      · split at h
        · rename_i hm
          have e := List.mem_singleton.1 h
          exact ⟨n, by omega, e, by rw [e]; exact hm⟩
        · cases h
    · rintro ⟨k, h1, h2, h3⟩
      rcases Nat.lt_or_ge k n with hlt | hge
      · exact .inl ⟨k, hlt, h2, h3⟩
      · obtain rfl : k = n := by omega
        right
        rw [← h2, if_pos h3]
        exact List.mem_singleton.2 rfl
theorem gm_lt {R : Rou} {F T : List UInt8} : ∀ n, (gmL R F T n).Pairwise (· < ·)
  | 0 => List.Pairwise.nil
  | n + 1 => by
    show (gmL R F T n ++ _).Pairwise _
    refine List.pairwise_append.2 ⟨gm_lt n, by split <;> simp, fun a ha b hb => ?_⟩
    obtain ⟨k, h1, h2, -⟩ := (gm_mem n).1 ha
    split at hb
    · have := List.mem_singleton.1 hb; omega
    · cases hb
theorem max_mono {F f x : List UInt8} (h : Op.bytesLess f x = false) : Op.bytesLess (maxL F f) (maxL F x) = false := by
  unfold maxL
  cases h1 : Op.bytesLess f F with
  | true =>
    have h2 : Op.bytesLess x F = true := not_less_trans h h1
    rw [h2]; exact less_irr _
  | false =>
    cases h2 : Op.bytesLess x F with
    | true => exact h1
    | false => exact h
theorem beg_ge {l : List UInt8} (h : begB l 120 = true) : Op.bytesLess l [120] = false := by
  cases l with
  | nil => cases h
  | cons c r =>
    have hq : ((c.toNat : Int) == 120) = true := h
    have hq2 : c.toNat = 120 := by
      have h9 : (c.toNat : Int) = 120 := by simpa using hq
      omega
    have hq3 : c = 120 := UInt8.toNat_inj.1 (by rw [hq2]; rfl)
    subst hq3
    cases r <;> rfl
theorem to_le {R : Rou} (h : RtOk R) (k : Nat) : Op.bytesLess [121] (toL R.sp k) = false := by
  rw [toL_eq]
  unfold atL
  cases ho : R.sp[k + 1]? with
  | none => exact less_irr _
  | some o => exact less_asymm (beg_less (h.beg _ o ho).1)
theorem meet_wide {R : Rou} (h : RtOk R) {F T : List UInt8} {k : Nat} {o : Ow} (ho : R.sp[k]? = some o) (hm : meetB F T o.f (toL R.sp k) = true) : meetB F T [120] [121] = true := by
  have hne : toL R.sp k ≠ [] := by rw [toL_eq]; exact ne_of_less (h.rise k o ho)
  rw [← rmeet_eq hne] at hm
  rw [← rmeet_eq (by simp)]
  unfold rmeetB at hm ⊢
  simp only [Bool.and_eq_true, Bool.or_eq_true, decide_eq_true_eq] at hm ⊢
  have hx := max_mono (F := F) (beg_ge (h.beg k o ho).1)
  refine ⟨hm.1.imp id (fun q => not_less_trans hx q), Or.inr ?_⟩
  rcases hm.2 with q | q
  · exact absurd q hne
  · exact lt_le (not_less_trans hx q) (to_le h k)
theorem over_eq {R : Rou} (h : RtOk R) {F T : List UInt8} {M : List Int} (hp : M.Perm (overL R F T)) (hs : M.Pairwise (· ≤ ·)) : M = rOverL R F T := by
  have hb := h.base
  have hlt : (rOverL R F T).Pairwise (· < ·) := by
    unfold rOverL
    refine List.pairwise_append.2 ⟨by split; exact bases_lt _; exact List.Pairwise.nil, gm_lt 4, fun a ha b hb2 => ?_⟩
    obtain ⟨k, h1, h2, -⟩ := (gm_mem 4).1 hb2
    split at ha
    · have := (bases_mem a _).1 ha
      omega
    · cases ha
  have hnd : (overL R F T).Nodup := by
    unfold overL
    refine List.pairwise_append.2 ⟨by split; exact (bases_lt _).imp (fun q => by omega); exact List.Pairwise.nil, by split; exact met_nodup h _ (Nat.le_refl _); exact List.Pairwise.nil, fun a ha b hb2 => ?_⟩
    split at ha
    · have h1 := (bases_mem a _).1 ha
      split at hb2
      · obtain ⟨k, o, -, h2, -, h4⟩ := (met_mem2 _ (Nat.le_refl _)).1 hb2
        have := (h.grp k o h2).1
        omega
      · cases hb2
    · cases ha
  have hmem : ∀ z, z ∈ overL R F T ↔ z ∈ rOverL R F T := by
    intro z
    unfold overL rOverL
    rw [List.mem_append, List.mem_append, rmeet_eq (F1 := F) (T1 := T) (F2 := [114]) (T2 := [115]) (by simp)]
    refine or_congr Iff.rfl ?_
    constructor
    · intro hz
      split at hz
      · obtain ⟨k, o, h1, h2, h3, rfl⟩ := (met_mem2 _ (Nat.le_refl _)).1 hz
        obtain ⟨g1, g2, g3⟩ := h.grp k o h2
        refine (gm_mem 4).2 ⟨(o.g - R.base - 1).toNat, by omega, by omega, ?_⟩
        have hne : toL R.sp k ≠ [] := by rw [toL_eq]; exact ne_of_less (h.rise k o h2)
        unfold gmeet
        rw [g3, Int.toNat_natCast, h2]
        simp only [Bool.and_eq_true, decide_eq_true_eq]
        exact ⟨by omega, by rw [rmeet_eq hne]; exact h3⟩
      · cases hz
    · intro hz
      obtain ⟨k, h1, h2, h3⟩ := (gm_mem 4).1 hz
      unfold gmeet at h3
      rw [Bool.and_eq_true, decide_eq_true_eq] at h3
      obtain ⟨g1, g2⟩ := h3
      rcases plc_cases R.sp z with hq | ⟨j, o, hq, ho⟩
      · rw [hq] at g1; omega
      · rw [hq, Int.toNat_natCast, ho] at g2
        have hne : toL R.sp j ≠ [] := by rw [toL_eq]; exact ne_of_less (h.rise j o ho)
        have hm : meetB F T o.f (toL R.sp j) = true := by rw [← rmeet_eq hne]; exact g2
        have hz2 : o.g = z := by
          rcases fidx_cases (fun t : Ow => decide (t.g = z)) R.sp with ⟨q1, -⟩ | ⟨j2, o2, q1, q2, -, q4, -⟩
          · have : plcI R.sp z = -1 := q1
            omega
          · have q5 : plcI R.sp z = (j2 : Int) := q1
            obtain rfl : j = j2 := by omega
            rw [ho] at q2; injection q2 with q2; subst q2
            simpa using q4
        rw [meet_wide h ho hm, Bool.or_true]
        rw [if_pos rfl]
        exact (met_mem2 _ (Nat.le_refl _)).2 ⟨j, o, (List.getElem?_eq_some_iff.1 ho).1, ho, hm, hz2⟩
  have hpp : M.Perm (rOverL R F T) := hp.trans ((List.perm_ext_iff_of_nodup hnd (hlt.imp (fun q => by omega))).2 hmem)
  exact List.Perm.eq_of_pairwise (le := (· ≤ ·)) (fun a b _ _ h1 h2 => by omega) hs (hlt.imp (fun q => by omega)) hpp
theorem is_own {w : World} {base : Nat} {v : Value} {L : List Int} (h : w.ownsRow base 3 1 v L.length (L.map iv)) (hl : L.length ≤ 1000) : Is w v L := by
  obtain ⟨hlen, h2⟩ := h
  rcases h2 with ⟨rfl, h0⟩ | ⟨g, cap, cur, rfl, hb, hg, hn, hc, hs, ht⟩
  · obtain rfl : L = [] := List.eq_nil_of_length_eq_zero h0
    exact ⟨none, 0, rfl, by simp, fun k z hk => by simp at hk⟩
  · refine ⟨some ⟨g, 0, none⟩, cap, rfl, by unfold maxLen; omega, fun k z hk => ⟨g, 0, rfl, ?_⟩⟩
    rw [Nat.zero_add]
    have hu : (L.map iv)[k]? = some (iv z) := by rw [List.getElem?_map, hk]; rfl
    have h9 := cell_of_row w g k cur 3 (0, 0) hg
    rw [h9]
    rw [← ht, List.getElem?_take] at hu
    split at hu
    · simpa [iv] using hu
    · cases hu
theorem rover_len {R : Rou} (h : RtOk R) (F T : List UInt8) : (rOverL R F T).length ≤ 1000 := by
  have hb := h.base
  unfold rOverL
  rw [List.length_append]
  have h1 := gm_len R F T 4
  have h2 : (basesL R.base.toNat).length = R.base.toNat := by
    generalize R.base.toNat = n
    induction n with
    | zero => rfl
    | succ n ih => show (basesL n ++ [_]).length = _; rw [List.length_append, ih]; rfl
  split
  · omega
  · simp; omega
theorem OvA.elim {R : Rou} (h : RtOk R) {F T : List UInt8} {w w' : World} {e : Ending} (ho : OvA w (overL R F T) e w') : ∃ v, e = .returned v ∧ Is w' v (rOverL R F T) ∧ Below w.heap.size w w' := by
  obtain ⟨v, M, rfl, hp, hs, hw, hb⟩ := ho
  have e := over_eq h hp hs
  subst e
  exact ⟨v, rfl, is_own hw (rover_len h F T), hb⟩
theorem LsA.elim {R : Rou} (h : RtOk R) {F T : List UInt8} {w w' : World} {e : Ending} (ho : LsA w (rOverL R F T) e w') : ∃ v, e = .returned v ∧ Is w' v (rOverL R F T) ∧ Below w.heap.size w w' := by
  obtain ⟨v, rfl, hw, hb⟩ := ho
  exact ⟨v, rfl, is_own hw (rover_len h F T), hb⟩
end Go.Proofs.Ytafcbelkhhjcoaa

set_option linter.unusedVariables false
set_option linter.unusedSimpArgs false
set_option maxRecDepth 100000
namespace Go.Proofs.Ytafcbelkhhjcoaa
open Go.RowKit Go.Deep

set_option maxHeartbeats 4000000 in
theorem rnew_ok (w : World) (bs sp : Int) (h1 : bfB bs = true) (h2 : 1 ≤ sp) (h3 : sp ≤ 4) : Calls Try.prog 42 #[.int .i64 bs, .int .i64 sp] w (NewA w bs) := by
  have hbs : 1 ≤ bs ∧ bs ≤ 4 := by unfold bfB at h1; simpa using h1
  have h4b : ¬ bs < 1 := by omega
  have h5b : ¬ bs > 4 := by omega
  have h2b : ¬ sp < 1 := by omega
  have h3b : ¬ sp > 4 := by omega
  have hbw : IntKind.i64.wrap (bs + 1) = bs + 1 := IntWalk.i64_in _ (by omega)
  go_enter Try.func42, Try.ntmps42
  go_upto_region 1 with fail
  have hb := (Below.refl w.heap.size w).alloc (Nat.le_refl _) (.cells #[.int .i64 0, .int .i64 0, .slice none 0 0, .int .i64 0, .slice none 0 0] 64)
  have hz := heap_alloc_new w (.cells #[.int .i64 0, .int .i64 0, .slice none 0 0, .int .i64 0, .slice none 0 0] 64)
  have hs : (w.alloc (.cells #[.int .i64 0, .int .i64 0, .slice none 0 0, .int .i64 0, .slice none 0 0] 64)).heap.size = w.heap.size + 1 := by simp
  generalize w.alloc (.cells #[.int .i64 0, .int .i64 0, .slice none 0 0, .int .i64 0, .slice none 0 0] 64) = w1 at *
  have HB := hid hb
  have HZ := hid hz
  have HS := hid hs
  have z0 := cell_in hz 0 _ rfl
  have f0 := free_in hz 0
  have z1 := cell_in hz 1 _ rfl
  have f1 := free_in hz 1
  have z2 := cell_in hz 2 _ rfl
  have f2 := free_in hz 2
  have z3 := cell_in hz 3 _ rfl
  have f3 := free_in hz 3
  have z4 := cell_in hz 4 _ rfl
  have f4 := free_in hz 4
  clear hb hz hs
  go_upto_region 3 with fail
  have hsz := HS.out
  go_wp2_with fail
  have hz2 := (put_in (put_in (put_in (put_in (put_in HZ.out 0 (.int .i64 0)) 1 (.int .i64 bs)) 2 (.slice (some ⟨w.heap.size + 1 + 1, 0, none⟩) 1 1)) 3 (.int .i64 0)) 4 (.slice none 0 0))
  have hb2 : Below w.heap.size w (((((w1.setCell ⟨w.heap.size, 0, none⟩ (.int .i64 0)).setCell ⟨w.heap.size, 1, none⟩ (.int .i64 bs)).setCell ⟨w.heap.size, 2, none⟩ (.slice (some ⟨w.heap.size + 1 + 1, 0, none⟩) 1 1)).setCell ⟨w.heap.size, 3, none⟩ (.int .i64 0)).setCell ⟨w.heap.size, 4, none⟩ (.slice none 0 0)) := (((((HB.out.setCell (Nat.le_refl _) _).setCell (Nat.le_refl _) _).setCell (Nat.le_refl _) _).setCell (Nat.le_refl _) _).setCell (Nat.le_refl _) _)
  have hs2 : (((((w1.setCell ⟨w.heap.size, 0, none⟩ (.int .i64 0)).setCell ⟨w.heap.size, 1, none⟩ (.int .i64 bs)).setCell ⟨w.heap.size, 2, none⟩ (.slice (some ⟨w.heap.size + 1 + 1, 0, none⟩) 1 1)).setCell ⟨w.heap.size, 3, none⟩ (.int .i64 0)).setCell ⟨w.heap.size, 4, none⟩ (.slice none 0 0)).heap.size = w.heap.size + 1 := by simp [HS.out]
  generalize (((((w1.setCell ⟨w.heap.size, 0, none⟩ (.int .i64 0)).setCell ⟨w.heap.size, 1, none⟩ (.int .i64 bs)).setCell ⟨w.heap.size, 2, none⟩ (.slice (some ⟨w.heap.size + 1 + 1, 0, none⟩) 1 1)).setCell ⟨w.heap.size, 3, none⟩ (.int .i64 0)).setCell ⟨w.heap.size, 4, none⟩ (.slice none 0 0)) = w2 at *
  have k1 := heap_alloc_new w2 (.cells #[.int .u8 120] 5)
  have hb3 := hb2.alloc (by omega) (.cells #[.int .u8 120] 5)
  have k0 := (((Below.refl w2.heap.size w2).alloc (Nat.le_refl _) (.cells #[.int .u8 120] 5)).block _ (by omega)).trans hz2
  have hs3 : (w2.alloc (.cells #[.int .u8 120] 5)).heap.size = w.heap.size + 1 + 1 := by simp; omega
  rw [hs2] at k1
  generalize w2.alloc (.cells #[.int .u8 120] 5) = w3 at *
  have m2 := heap_alloc_new w3 (.cells #[.int .i64 (bs + 1), .slice (some ⟨w.heap.size + 1, 0, none⟩) 1 1] 140)
  have hb4 := hb3.alloc (by omega) (.cells #[.int .i64 (bs + 1), .slice (some ⟨w.heap.size + 1, 0, none⟩) 1 1] 140)
  have m0 := (((Below.refl w3.heap.size w3).alloc (Nat.le_refl _) (.cells #[.int .i64 (bs + 1), .slice (some ⟨w.heap.size + 1, 0, none⟩) 1 1] 140)).block _ (by omega)).trans k0
  have m1 := (((Below.refl w3.heap.size w3).alloc (Nat.le_refl _) (.cells #[.int .i64 (bs + 1), .slice (some ⟨w.heap.size + 1, 0, none⟩) 1 1] 140)).block _ (by omega)).trans k1
  rw [hs3] at m2
  generalize w3.alloc (.cells #[.int .i64 (bs + 1), .slice (some ⟨w.heap.size + 1, 0, none⟩) 1 1] 140) = w4 at *
  refine bodyPost_ret (results_cell5 rfl _ _ w.heap.size 64 _ (0, 0) _ rfl m0 Try.underlying64 rfl (by kernel_rfl)) rfl ?_
  exact ⟨_, _, rfl, ows_one m2 rfl (zrd_one m1), hb4⟩
set_option maxHeartbeats 4000000 in
theorem rnew_no (w : World) (bs sp : Int) (h : ¬ (bfB bs = true ∧ 1 ≤ sp ∧ sp ≤ 4)) : Calls Try.prog 42 #[.int .i64 bs, .int .i64 sp] w (AnsP w (.tuple #[.agg #[.int .i64 0, .int .i64 0, .slice none 0 0, .int .i64 0, .slice none 0 0], .int .i64 1])) := by
  have HC := fun W => bf_any W bs
  go_enter Try.func42, Try.ntmps42
  go_upto_region 1 with fail
  have hb := (Below.refl w.heap.size w).alloc (Nat.le_refl _) (.cells #[.int .i64 0, .int .i64 0, .slice none 0 0, .int .i64 0, .slice none 0 0] 64)
  have hz := heap_alloc_new w (.cells #[.int .i64 0, .int .i64 0, .slice none 0 0, .int .i64 0, .slice none 0 0] 64)
  have hs : (w.alloc (.cells #[.int .i64 0, .int .i64 0, .slice none 0 0, .int .i64 0, .slice none 0 0] 64)).heap.size = w.heap.size + 1 := by simp
  generalize w.alloc (.cells #[.int .i64 0, .int .i64 0, .slice none 0 0, .int .i64 0, .slice none 0 0] 64) = w1 at *
  have HB := hid hb
  have HZ := hid hz
  have HS := hid hs
  have z0 := cell_in hz 0 _ rfl
  have f0 := free_in hz 0
  have z1 := cell_in hz 1 _ rfl
  have f1 := free_in hz 1
  have z2 := cell_in hz 2 _ rfl
  have f2 := free_in hz 2
  have z3 := cell_in hz 3 _ rfl
  have f3 := free_in hz 3
  have z4 := cell_in hz 4 _ rfl
  have f4 := free_in hz 4
  clear hb hz hs
  unfold bfB at h
  clear HC
  by_cases g1 : bs < 1
  · skip
    go_wp2_with fail
    have hz2 := (put_in (put_in (put_in (put_in (put_in HZ.out 0 (.int .i64 0)) 1 (.int .i64 0)) 2 (.slice none 0 0)) 3 (.int .i64 0)) 4 (.slice none 0 0))
    have hb2 : Below w.heap.size w (((((w1.setCell ⟨w.heap.size, 0, none⟩ (.int .i64 0)).setCell ⟨w.heap.size, 1, none⟩ (.int .i64 0)).setCell ⟨w.heap.size, 2, none⟩ (.slice none 0 0)).setCell ⟨w.heap.size, 3, none⟩ (.int .i64 0)).setCell ⟨w.heap.size, 4, none⟩ (.slice none 0 0)) := (((((HB.out.setCell (Nat.le_refl _) _).setCell (Nat.le_refl _) _).setCell (Nat.le_refl _) _).setCell (Nat.le_refl _) _).setCell (Nat.le_refl _) _)
    generalize ((((w1.setCell ⟨w.heap.size, 0, none⟩ (.int .i64 0)).setCell ⟨w.heap.size, 1, none⟩ (.int .i64 0)).setCell ⟨w.heap.size, 2, none⟩ (.slice none 0 0)).setCell ⟨w.heap.size, 3, none⟩ (.int .i64 0)).setCell ⟨w.heap.size, 4, none⟩ (.slice none 0 0) = w2 at *
    (try simp only [Exit.inBlock, Exit.then]); refine bodyPost_ret (results_cell5 rfl _ _ w.heap.size 64 _ (0, 0) _ rfl hz2 Try.underlying64 rfl (by kernel_rfl)) rfl ?_
    exact ⟨rfl, hb2⟩
  by_cases g2 : bs > 4
  · skip
    go_wp2_with fail
    have hz2 := (put_in (put_in (put_in (put_in (put_in HZ.out 0 (.int .i64 0)) 1 (.int .i64 0)) 2 (.slice none 0 0)) 3 (.int .i64 0)) 4 (.slice none 0 0))
    have hb2 : Below w.heap.size w (((((w1.setCell ⟨w.heap.size, 0, none⟩ (.int .i64 0)).setCell ⟨w.heap.size, 1, none⟩ (.int .i64 0)).setCell ⟨w.heap.size, 2, none⟩ (.slice none 0 0)).setCell ⟨w.heap.size, 3, none⟩ (.int .i64 0)).setCell ⟨w.heap.size, 4, none⟩ (.slice none 0 0)) := (((((HB.out.setCell (Nat.le_refl _) _).setCell (Nat.le_refl _) _).setCell (Nat.le_refl _) _).setCell (Nat.le_refl _) _).setCell (Nat.le_refl _) _)
    generalize ((((w1.setCell ⟨w.heap.size, 0, none⟩ (.int .i64 0)).setCell ⟨w.heap.size, 1, none⟩ (.int .i64 0)).setCell ⟨w.heap.size, 2, none⟩ (.slice none 0 0)).setCell ⟨w.heap.size, 3, none⟩ (.int .i64 0)).setCell ⟨w.heap.size, 4, none⟩ (.slice none 0 0) = w2 at *
    (try simp only [Exit.inBlock, Exit.then]); refine bodyPost_ret (results_cell5 rfl _ _ w.heap.size 64 _ (0, 0) _ rfl hz2 Try.underlying64 rfl (by kernel_rfl)) rfl ?_
    exact ⟨rfl, hb2⟩
  have h9 : ¬ (1 ≤ sp ∧ sp ≤ 4) := fun h8 => h ⟨by simp; omega, h8⟩
  clear h
  by_cases g3 : sp < 1
  · skip
    go_wp2_with fail
    have hz2 := (put_in (put_in (put_in (put_in (put_in HZ.out 0 (.int .i64 0)) 1 (.int .i64 0)) 2 (.slice none 0 0)) 3 (.int .i64 0)) 4 (.slice none 0 0))
    have hb2 : Below w.heap.size w (((((w1.setCell ⟨w.heap.size, 0, none⟩ (.int .i64 0)).setCell ⟨w.heap.size, 1, none⟩ (.int .i64 0)).setCell ⟨w.heap.size, 2, none⟩ (.slice none 0 0)).setCell ⟨w.heap.size, 3, none⟩ (.int .i64 0)).setCell ⟨w.heap.size, 4, none⟩ (.slice none 0 0)) := (((((HB.out.setCell (Nat.le_refl _) _).setCell (Nat.le_refl _) _).setCell (Nat.le_refl _) _).setCell (Nat.le_refl _) _).setCell (Nat.le_refl _) _)
    generalize ((((w1.setCell ⟨w.heap.size, 0, none⟩ (.int .i64 0)).setCell ⟨w.heap.size, 1, none⟩ (.int .i64 0)).setCell ⟨w.heap.size, 2, none⟩ (.slice none 0 0)).setCell ⟨w.heap.size, 3, none⟩ (.int .i64 0)).setCell ⟨w.heap.size, 4, none⟩ (.slice none 0 0) = w2 at *
    (try simp only [Exit.inBlock, Exit.then]); refine bodyPost_ret (results_cell5 rfl _ _ w.heap.size 64 _ (0, 0) _ rfl hz2 Try.underlying64 rfl (by kernel_rfl)) rfl ?_
    exact ⟨rfl, hb2⟩
  have g4 : sp > 4 := by omega
  go_wp2_with fail
  have hz2 := (put_in (put_in (put_in (put_in (put_in HZ.out 0 (.int .i64 0)) 1 (.int .i64 0)) 2 (.slice none 0 0)) 3 (.int .i64 0)) 4 (.slice none 0 0))
  have hb2 : Below w.heap.size w (((((w1.setCell ⟨w.heap.size, 0, none⟩ (.int .i64 0)).setCell ⟨w.heap.size, 1, none⟩ (.int .i64 0)).setCell ⟨w.heap.size, 2, none⟩ (.slice none 0 0)).setCell ⟨w.heap.size, 3, none⟩ (.int .i64 0)).setCell ⟨w.heap.size, 4, none⟩ (.slice none 0 0)) := (((((HB.out.setCell (Nat.le_refl _) _).setCell (Nat.le_refl _) _).setCell (Nat.le_refl _) _).setCell (Nat.le_refl _) _).setCell (Nat.le_refl _) _)
  generalize ((((w1.setCell ⟨w.heap.size, 0, none⟩ (.int .i64 0)).setCell ⟨w.heap.size, 1, none⟩ (.int .i64 0)).setCell ⟨w.heap.size, 2, none⟩ (.slice none 0 0)).setCell ⟨w.heap.size, 3, none⟩ (.int .i64 0)).setCell ⟨w.heap.size, 4, none⟩ (.slice none 0 0) = w2 at *
  (try simp only [Exit.inBlock, Exit.then]); refine bodyPost_ret (results_cell5 rfl _ _ w.heap.size 64 _ (0, 0) _ rfl hz2 Try.underlying64 rfl (by kernel_rfl)) rfl ?_
  exact ⟨rfl, hb2⟩
set_option maxHeartbeats 4000000 in
theorem new_no (w : World) (bs sp : Int) (h : ¬ (bfB bs = true ∧ 1 ≤ sp ∧ sp ≤ 4)) : Calls Try.prog 41 #[.int .i64 bs, .int .i64 sp] w (AnsP w (.tuple #[.agg #[.int .i64 0, .int .i64 0, .slice none 0 0, .int .i64 0, .slice none 0 0], .int .i64 1])) := by
  have HC := fun W => bf_any W bs
  go_enter Try.func41, Try.ntmps41
  go_upto_region 1 with fail
  have hb := (Below.refl w.heap.size w).alloc (Nat.le_refl _) (.cells #[.int .i64 0, .int .i64 0, .slice none 0 0, .int .i64 0, .slice none 0 0] 64)
  have hz := heap_alloc_new w (.cells #[.int .i64 0, .int .i64 0, .slice none 0 0, .int .i64 0, .slice none 0 0] 64)
  have hs : (w.alloc (.cells #[.int .i64 0, .int .i64 0, .slice none 0 0, .int .i64 0, .slice none 0 0] 64)).heap.size = w.heap.size + 1 := by simp
  generalize w.alloc (.cells #[.int .i64 0, .int .i64 0, .slice none 0 0, .int .i64 0, .slice none 0 0] 64) = w1 at *
  have HB := hid hb
  have HZ := hid hz
  have HS := hid hs
  have z0 := cell_in hz 0 _ rfl
  have f0 := free_in hz 0
  have z1 := cell_in hz 1 _ rfl
  have f1 := free_in hz 1
  have z2 := cell_in hz 2 _ rfl
  have f2 := free_in hz 2
  have z3 := cell_in hz 3 _ rfl
  have f3 := free_in hz 3
  have z4 := cell_in hz 4 _ rfl
  have f4 := free_in hz 4
  clear hb hz hs
  cases g1 : bfB bs with
  | false =>
    rw [g1] at HC
    clear h
    go_wp2_with (first | (go_at_call 115; refine (HC _).mono ?_; rintro en w3 ⟨rfl, e3⟩; obtain rfl : w1 = w3 := e3.symm; clear e3))
    have hz2 := (put_in (put_in (put_in (put_in (put_in HZ.out 0 (.int .i64 0)) 1 (.int .i64 0)) 2 (.slice none 0 0)) 3 (.int .i64 0)) 4 (.slice none 0 0))
    have hb2 : Below w.heap.size w (((((w1.setCell ⟨w.heap.size, 0, none⟩ (.int .i64 0)).setCell ⟨w.heap.size, 1, none⟩ (.int .i64 0)).setCell ⟨w.heap.size, 2, none⟩ (.slice none 0 0)).setCell ⟨w.heap.size, 3, none⟩ (.int .i64 0)).setCell ⟨w.heap.size, 4, none⟩ (.slice none 0 0)) := (((((HB.out.setCell (Nat.le_refl _) _).setCell (Nat.le_refl _) _).setCell (Nat.le_refl _) _).setCell (Nat.le_refl _) _).setCell (Nat.le_refl _) _)
    generalize ((((w1.setCell ⟨w.heap.size, 0, none⟩ (.int .i64 0)).setCell ⟨w.heap.size, 1, none⟩ (.int .i64 0)).setCell ⟨w.heap.size, 2, none⟩ (.slice none 0 0)).setCell ⟨w.heap.size, 3, none⟩ (.int .i64 0)).setCell ⟨w.heap.size, 4, none⟩ (.slice none 0 0) = w2 at *
    (try simp only [Exit.inBlock, Exit.then]); refine bodyPost_ret (results_cell5 rfl _ _ w.heap.size 64 _ (0, 0) _ rfl hz2 Try.underlying64 rfl (by kernel_rfl)) rfl ?_
    exact ⟨rfl, hb2⟩
  | true =>
  rw [g1] at HC
  have h9 : ¬ (1 ≤ sp ∧ sp ≤ 4) := fun h8 => h ⟨g1, h8⟩
  clear h
  by_cases g3 : sp < 1
  · skip
    go_wp2_with (first | (go_at_call 115; refine (HC _).mono ?_; rintro en w3 ⟨rfl, e3⟩; obtain rfl : w1 = w3 := e3.symm; clear e3))
    have hz2 := (put_in (put_in (put_in (put_in (put_in HZ.out 0 (.int .i64 0)) 1 (.int .i64 0)) 2 (.slice none 0 0)) 3 (.int .i64 0)) 4 (.slice none 0 0))
    have hb2 : Below w.heap.size w (((((w1.setCell ⟨w.heap.size, 0, none⟩ (.int .i64 0)).setCell ⟨w.heap.size, 1, none⟩ (.int .i64 0)).setCell ⟨w.heap.size, 2, none⟩ (.slice none 0 0)).setCell ⟨w.heap.size, 3, none⟩ (.int .i64 0)).setCell ⟨w.heap.size, 4, none⟩ (.slice none 0 0)) := (((((HB.out.setCell (Nat.le_refl _) _).setCell (Nat.le_refl _) _).setCell (Nat.le_refl _) _).setCell (Nat.le_refl _) _).setCell (Nat.le_refl _) _)
    generalize ((((w1.setCell ⟨w.heap.size, 0, none⟩ (.int .i64 0)).setCell ⟨w.heap.size, 1, none⟩ (.int .i64 0)).setCell ⟨w.heap.size, 2, none⟩ (.slice none 0 0)).setCell ⟨w.heap.size, 3, none⟩ (.int .i64 0)).setCell ⟨w.heap.size, 4, none⟩ (.slice none 0 0) = w2 at *
    (try simp only [Exit.inBlock, Exit.then]); refine bodyPost_ret (results_cell5 rfl _ _ w.heap.size 64 _ (0, 0) _ rfl hz2 Try.underlying64 rfl (by kernel_rfl)) rfl ?_
    exact ⟨rfl, hb2⟩
  have g4 : sp > 4 := by omega
  go_wp2_with (first | (go_at_call 115; refine (HC _).mono ?_; rintro en w3 ⟨rfl, e3⟩; obtain rfl : w1 = w3 := e3.symm; clear e3))
  have hz2 := (put_in (put_in (put_in (put_in (put_in HZ.out 0 (.int .i64 0)) 1 (.int .i64 0)) 2 (.slice none 0 0)) 3 (.int .i64 0)) 4 (.slice none 0 0))
  have hb2 : Below w.heap.size w (((((w1.setCell ⟨w.heap.size, 0, none⟩ (.int .i64 0)).setCell ⟨w.heap.size, 1, none⟩ (.int .i64 0)).setCell ⟨w.heap.size, 2, none⟩ (.slice none 0 0)).setCell ⟨w.heap.size, 3, none⟩ (.int .i64 0)).setCell ⟨w.heap.size, 4, none⟩ (.slice none 0 0)) := (((((HB.out.setCell (Nat.le_refl _) _).setCell (Nat.le_refl _) _).setCell (Nat.le_refl _) _).setCell (Nat.le_refl _) _).setCell (Nat.le_refl _) _)
  generalize ((((w1.setCell ⟨w.heap.size, 0, none⟩ (.int .i64 0)).setCell ⟨w.heap.size, 1, none⟩ (.int .i64 0)).setCell ⟨w.heap.size, 2, none⟩ (.slice none 0 0)).setCell ⟨w.heap.size, 3, none⟩ (.int .i64 0)).setCell ⟨w.heap.size, 4, none⟩ (.slice none 0 0) = w2 at *
  (try simp only [Exit.inBlock, Exit.then]); refine bodyPost_ret (results_cell5 rfl _ _ w.heap.size 64 _ (0, 0) _ rfl hz2 Try.underlying64 rfl (by kernel_rfl)) rfl ?_
  exact ⟨rfl, hb2⟩
end Go.Proofs.Ytafcbelkhhjcoaa

set_option linter.unusedVariables false
set_option linter.unusedSimpArgs false
set_option maxRecDepth 100000
namespace Go.Proofs.Ytafcbelkhhjcoaa
open Go.RowKit Go.Deep

theorem bel_drew {w wr w2 : World} (h1 : Below w.heap.size w wr) (h2 : Below wr.drew.heap.size wr.drew w2) : Below w.heap.size w w2 := below_step h1.drew h2
set_option maxHeartbeats 2000000 in
theorem owner_eq (g : Int) (f : List UInt8) (a1 a2 : Option Addr) (c1 c2 : Nat) (w : World) (h1 : Rd w (.slice a1 f.length c1) f) (h2 : Rd w (.slice a2 f.length c2) f) :
    Calls Try.prog 121 #[.agg #[.int .i64 g, .slice a1 f.length c1], .agg #[.int .i64 g, .slice a2 f.length c2]] w (AnsP w (.bool true)) := by
  go_enter Try.func121, Try.ntmps121
  go_upto_region 1 with fail
  have hb1 := (Below.refl w.heap.size w).alloc (Nat.le_refl _) (.cells #[.int .i64 g, .slice a1 f.length c1] 140)
  have hz1 := heap_alloc_new w (.cells #[.int .i64 g, .slice a1 f.length c1] 140)
  have hs1 : (w.alloc (.cells #[.int .i64 g, .slice a1 f.length c1] 140)).heap.size = w.heap.size + 1 := by simp
  generalize w.alloc (.cells #[.int .i64 g, .slice a1 f.length c1] 140) = w1 at *
  have hb2 := hb1.alloc (by omega) (.cells #[.int .i64 g, .slice a2 f.length c2] 140)
  have hz2 := heap_alloc_new w1 (.cells #[.int .i64 g, .slice a2 f.length c2] 140)
  have hz12 := (((Below.refl w1.heap.size w1).alloc (Nat.le_refl _) (.cells #[.int .i64 g, .slice a2 f.length c2] 140)).block _ (by omega)).trans hz1
  rw [hs1] at hz2
  generalize w1.alloc (.cells #[.int .i64 g, .slice a2 f.length c2] 140) = w2 at *
  have p0 := cell_in hz12 0 _ rfl
  have p1 := cell_in hz12 1 _ rfl
  have q0 := cell_in hz2 0 _ rfl
  have q1 := cell_in hz2 1 _ rfl
  have CB := zbytes_any w2 (h1.old hb2) (h2.old hb2)
  rw [beq_self_eq_true] at CB
  have HB := hid hb2
  clear hb1 hz1 hs1 hb2 hz2 hz12 h1 h2
  go_wp2_with (first | (go_at_call 91; refine CB.mono ?_; rintro en w3 ⟨rfl, e3⟩; obtain rfl : w2 = w3 := e3.symm; clear e3))
  go_ret
  exact ⟨by simp, HB.out⟩
set_option maxHeartbeats 4000000 in
theorem osame_eq (x y : Value) (l : List Ow) (w : World) (hx : OwsN w x l) (hy : OwsN w y l) :
    Calls Try.prog 120 #[x, y, .func (.func 121) #[] #[]] w (AnsP w (.bool true)) := by
  obtain ⟨ax, cx, rfl, -, hm, h1⟩ := ows_cells hx
  obtain ⟨ay, cy, rfl, -, -, h2⟩ := ows_cells hy
  have hlm := ows_form hx
  have HX := hid h1
  have HY := hid h2
  clear h1 h2 hm hx hy
  go_enter Try.func120, Try.ntmps120
  go_wp2_with fail
  go_loopw [7] (fun i wr => ∃ k : Nat, k ≤ l.length ∧ i = .int .i64 k ∧ Hid (Below w.heap.size w wr)) (fun i _ => l.length - (intOf i).toNat)
  case atStart => exact ⟨0, by omega, rfl, hid (Below.refl _ _)⟩
  case round =>
    obtain ⟨k, hk, rfl, HB⟩ := hrel
    by_cases hlt : k < l.length
    · obtain ⟨o, hz⟩ : ∃ o, l[k]? = some o := ⟨_, List.getElem?_eq_getElem hlt⟩
      obtain ⟨b1, o1, x1, d1, rfl, c0, c1, cr⟩ := HX.out k o hz
      obtain ⟨b2, o2, x2, d2, rfl, e0, e1, er⟩ := HY.out k o hz
      have m0 := (HB.out.cell (block_cell c0)).trans c0
      have m1 := (HB.out.cell (block_cell c1)).trans c1
      have n0 := (HB.out.cell (block_cell e0)).trans e0
      have n1 := (HB.out.cell (block_cell e1)).trans e1
      have C := fun W (hW : Below w.heap.size w W) => owner_eq o.g o.f x1 x2 d1 d2 W (cr.old hW) (er.old hW)
      have hki : (k : Int) < (l.length : Int) := by omega
      clear c0 c1 cr e0 e1 er hz
      go_upto_region 6 with fail
      go_region_with (first | (go_at_call 121; refine (C _ HB.out.drew).mono ?_; rintro e w2 ⟨rfl, hb2⟩))
      all_goals
        have HB2 := hid (bel_drew HB.out hb2)
        clear hb2
        go_wp2_with fail
        go_roundw
        · exact ⟨k + 1, by omega, by go_num, HB2⟩
        · simp [intOf]; omega
    · obtain rfl : k = l.length := by omega
      go_wp2_with fail
      go_ret
      exact ⟨by simp, HB.out⟩
set_option maxHeartbeats 4000000 in
theorem routes_eq (ep bs mv : Int) (L : List Ow) (K : List UInt8) (a1 a2 b1 b2 : Option Addr) (c1 c2 d1 d2 : Nat) (w : World) (h1 : OwsN w (.slice a1 L.length c1) L) (h2 : OwsN w (.slice a2 L.length c2) L) (h3 : Rd w (.slice b1 K.length d1) K) (h4 : Rd w (.slice b2 K.length d2) K) :
    Calls Try.prog 45 #[.agg #[.int .i64 ep, .int .i64 bs, .slice a1 L.length c1, .int .i64 mv, .slice b1 K.length d1], .agg #[.int .i64 ep, .int .i64 bs, .slice a2 L.length c2, .int .i64 mv, .slice b2 K.length d2]] w (AnsP w (.bool true)) := by
  go_enter Try.func45, Try.ntmps45
  go_upto_region 1 with fail
  have hb1 := (Below.refl w.heap.size w).alloc (Nat.le_refl _) (.cells #[.int .i64 ep, .int .i64 bs, .slice a1 L.length c1, .int .i64 mv, .slice b1 K.length d1] 64)
  have hz1 := heap_alloc_new w (.cells #[.int .i64 ep, .int .i64 bs, .slice a1 L.length c1, .int .i64 mv, .slice b1 K.length d1] 64)
  have hs1 : (w.alloc (.cells #[.int .i64 ep, .int .i64 bs, .slice a1 L.length c1, .int .i64 mv, .slice b1 K.length d1] 64)).heap.size = w.heap.size + 1 := by simp
  generalize w.alloc (.cells #[.int .i64 ep, .int .i64 bs, .slice a1 L.length c1, .int .i64 mv, .slice b1 K.length d1] 64) = w1 at *
  have hb2 := hb1.alloc (by omega) (.cells #[.int .i64 ep, .int .i64 bs, .slice a2 L.length c2, .int .i64 mv, .slice b2 K.length d2] 64)
  have hz2 := heap_alloc_new w1 (.cells #[.int .i64 ep, .int .i64 bs, .slice a2 L.length c2, .int .i64 mv, .slice b2 K.length d2] 64)
  have hz12 := (((Below.refl w1.heap.size w1).alloc (Nat.le_refl _) (.cells #[.int .i64 ep, .int .i64 bs, .slice a2 L.length c2, .int .i64 mv, .slice b2 K.length d2] 64)).block _ (by omega)).trans hz1
  have hs2 : (w1.alloc (.cells #[.int .i64 ep, .int .i64 bs, .slice a2 L.length c2, .int .i64 mv, .slice b2 K.length d2] 64)).heap.size = w.heap.size + 1 + 1 := by simp; omega
  rw [hs1] at hz2
  generalize w1.alloc (.cells #[.int .i64 ep, .int .i64 bs, .slice a2 L.length c2, .int .i64 mv, .slice b2 K.length d2] 64) = w2 at *
  have p0 := cell_in hz12 0 _ rfl
  have q0 := cell_in hz2 0 _ rfl
  have p1 := cell_in hz12 1 _ rfl
  have q1 := cell_in hz2 1 _ rfl
  have p2 := cell_in hz12 2 _ rfl
  have q2 := cell_in hz2 2 _ rfl
  have p3 := cell_in hz12 3 _ rfl
  have q3 := cell_in hz2 3 _ rfl
  have p4 := cell_in hz12 4 _ rfl
  have q4 := cell_in hz2 4 _ rfl
  have CS := osame_eq _ _ L w2 (h1.old hb2) (h2.old hb2)
  have HB := hid hb2
  have HKR : Hid (∀ V, Below w2.heap.size w2 V → V.cell? ⟨w.heap.size, 3, none⟩ = some (.int .i64 mv) ∧ V.cell? ⟨w.heap.size, 4, none⟩ = some (.slice b1 K.length d1) ∧ V.cell? ⟨w.heap.size + 1, 3, none⟩ = some (.int .i64 mv) ∧ V.cell? ⟨w.heap.size + 1, 4, none⟩ = some (.slice b2 K.length d2)) := hid (fun V hV => by
    have h9 := (hV.block _ (by omega)).trans hz12
    have h8 := (hV.block _ (by omega)).trans hz2
    exact ⟨cell_in h9 3 _ rfl, cell_in h9 4 _ rfl, cell_in h8 3 _ rfl, cell_in h8 4 _ rfl⟩)
  have H3 := hid h3
  have H4 := hid h4
  clear hb1 hz1 hs1 hb2 hz2 hz12 h1 h2 h3 h4 hs2 p3 p4 q3 q4
  go_wp2_with (first
    | (go_at_call 120; refine CS.mono ?_; rintro en w3 ⟨rfl, hb3⟩; have HB3 := hid (below_step HB.out hb3); obtain ⟨r1, r2, r3, r4⟩ := HKR.out _ hb3; clear hb3 CS p0 p1 p2 q0 q1 q2; have CB := zbytes_any w3 (H3.out.old HB3.out) (H4.out.old HB3.out); rw [beq_self_eq_true] at CB)
    | (go_at_call 91; refine CB.mono ?_; rintro en w4 ⟨rfl, e4⟩; obtain rfl : w3 = w4 := e4.symm; clear e4))
  go_ret
  exact ⟨by simp, HB3.out⟩
end Go.Proofs.Ytafcbelkhhjcoaa

set_option linter.unusedVariables false
set_option linter.unusedSimpArgs false
set_option maxRecDepth 100000
namespace Go.Proofs.Ytafcbelkhhjcoaa
open Go.RowKit Go.Deep

theorem cmp_geq (l m : List UInt8) : decide (cmpB l m ≥ 0) = !Op.bytesLess l m := by
  rw [← cmp_lss]
  by_cases h : cmpB l m < 0
  · rw [decide_eq_true h, decide_eq_false (by omega)]; rfl
  · rw [decide_eq_false h, decide_eq_true (by omega)]; rfl
theorem beg_ne {f : List UInt8} {m : Int} (h : begB f m = true) : ¬ f.length < 1 := by
  cases f with
  | nil => exact absurd h (by unfold begB; simp)
  | cons a l => simp
def spareB (R : Rou) (z : Int) : Bool := decide (z > R.base) && decide (z ≤ R.base + 4)
set_option maxHeartbeats 2000000 in
theorem spare_any {w : World} {R : Rou} {ao b : Option Addr} {c d : Nat} (z : Int) (hbf : bfB R.base = true) : Calls Try.prog 140 #[.agg #[.int .i64 R.ep, .int .i64 R.base, .slice ao R.sp.length c, .int .i64 R.mv, .slice b R.cut.length d], .int .i64 z] w (AnsP w (.bool (spareB R z))) := by
  have HC := fun W => bf_any W R.base
  rw [hbf] at HC
  have hb14 : 1 ≤ R.base ∧ R.base ≤ 4 := by unfold bfB at hbf; simpa using hbf
  have hbw : IntKind.i64.wrap (R.base + 4) = R.base + 4 := IntWalk.i64_in _ (by omega)
  unfold spareB
  by_cases h1 : z > R.base
  · rw [decide_eq_true h1]
    by_cases h2 : z ≤ R.base + 4
    · rw [decide_eq_true h2]
      go_enter Try.func140, Try.ntmps140
      go_upto_region 1 with fail
      have hb := (Below.refl w.heap.size w).alloc (Nat.le_refl _) (.cells #[.int .i64 R.ep, .int .i64 R.base, .slice ao R.sp.length c, .int .i64 R.mv, .slice b R.cut.length d] 64)
      have hz := heap_alloc_new w (.cells #[.int .i64 R.ep, .int .i64 R.base, .slice ao R.sp.length c, .int .i64 R.mv, .slice b R.cut.length d] 64)
      have hs : (w.alloc (.cells #[.int .i64 R.ep, .int .i64 R.base, .slice ao R.sp.length c, .int .i64 R.mv, .slice b R.cut.length d] 64)).heap.size = w.heap.size + 1 := by simp
      generalize w.alloc (.cells #[.int .i64 R.ep, .int .i64 R.base, .slice ao R.sp.length c, .int .i64 R.mv, .slice b R.cut.length d] 64) = w1 at *
      have HB1 := hid hb
      have HKR : Hid (∀ V, Below w1.heap.size w1 V → V.cell? ⟨w.heap.size, 0, none⟩ = some (.int .i64 R.ep) ∧ V.cell? ⟨w.heap.size, 1, none⟩ = some (.int .i64 R.base) ∧ V.cell? ⟨w.heap.size, 2, none⟩ = some (.slice ao R.sp.length c) ∧ V.cell? ⟨w.heap.size, 3, none⟩ = some (.int .i64 R.mv) ∧ V.cell? ⟨w.heap.size, 4, none⟩ = some (.slice b R.cut.length d)) := hid (fun V hV => by
        have h9 := (hV.block _ (by omega)).trans hz
        exact ⟨cell_in h9 0 _ rfl, cell_in h9 1 _ rfl, cell_in h9 2 _ rfl, cell_in h9 3 _ rfl, cell_in h9 4 _ rfl⟩)
      clear hb hz hs
      obtain ⟨q0, q1, q2, q3, q4⟩ := HKR.out w1 (Below.refl _ _)
      go_wp2_with (first | (go_at_call 115; refine (HC _).mono ?_; rintro en w3 ⟨rfl, rfl⟩))
      go_ret
      exact ⟨by simp; try omega, HB1.out⟩
    · rw [decide_eq_false h2]
      go_enter Try.func140, Try.ntmps140
      go_upto_region 1 with fail
      have hb := (Below.refl w.heap.size w).alloc (Nat.le_refl _) (.cells #[.int .i64 R.ep, .int .i64 R.base, .slice ao R.sp.length c, .int .i64 R.mv, .slice b R.cut.length d] 64)
      have hz := heap_alloc_new w (.cells #[.int .i64 R.ep, .int .i64 R.base, .slice ao R.sp.length c, .int .i64 R.mv, .slice b R.cut.length d] 64)
      have hs : (w.alloc (.cells #[.int .i64 R.ep, .int .i64 R.base, .slice ao R.sp.length c, .int .i64 R.mv, .slice b R.cut.length d] 64)).heap.size = w.heap.size + 1 := by simp
      generalize w.alloc (.cells #[.int .i64 R.ep, .int .i64 R.base, .slice ao R.sp.length c, .int .i64 R.mv, .slice b R.cut.length d] 64) = w1 at *
      have HB1 := hid hb
      have HKR : Hid (∀ V, Below w1.heap.size w1 V → V.cell? ⟨w.heap.size, 0, none⟩ = some (.int .i64 R.ep) ∧ V.cell? ⟨w.heap.size, 1, none⟩ = some (.int .i64 R.base) ∧ V.cell? ⟨w.heap.size, 2, none⟩ = some (.slice ao R.sp.length c) ∧ V.cell? ⟨w.heap.size, 3, none⟩ = some (.int .i64 R.mv) ∧ V.cell? ⟨w.heap.size, 4, none⟩ = some (.slice b R.cut.length d)) := hid (fun V hV => by
        have h9 := (hV.block _ (by omega)).trans hz
        exact ⟨cell_in h9 0 _ rfl, cell_in h9 1 _ rfl, cell_in h9 2 _ rfl, cell_in h9 3 _ rfl, cell_in h9 4 _ rfl⟩)
      clear hb hz hs
      obtain ⟨q0, q1, q2, q3, q4⟩ := HKR.out w1 (Below.refl _ _)
      go_wp2_with (first | (go_at_call 115; refine (HC _).mono ?_; rintro en w3 ⟨rfl, rfl⟩))
      go_ret
      exact ⟨by simp; try omega, HB1.out⟩
  · rw [decide_eq_false h1]
    go_enter Try.func140, Try.ntmps140
    go_upto_region 1 with fail
    have hb := (Below.refl w.heap.size w).alloc (Nat.le_refl _) (.cells #[.int .i64 R.ep, .int .i64 R.base, .slice ao R.sp.length c, .int .i64 R.mv, .slice b R.cut.length d] 64)
    have hz := heap_alloc_new w (.cells #[.int .i64 R.ep, .int .i64 R.base, .slice ao R.sp.length c, .int .i64 R.mv, .slice b R.cut.length d] 64)
    have hs : (w.alloc (.cells #[.int .i64 R.ep, .int .i64 R.base, .slice ao R.sp.length c, .int .i64 R.mv, .slice b R.cut.length d] 64)).heap.size = w.heap.size + 1 := by simp
    generalize w.alloc (.cells #[.int .i64 R.ep, .int .i64 R.base, .slice ao R.sp.length c, .int .i64 R.mv, .slice b R.cut.length d] 64) = w1 at *
    have HB1 := hid hb
    have HKR : Hid (∀ V, Below w1.heap.size w1 V → V.cell? ⟨w.heap.size, 0, none⟩ = some (.int .i64 R.ep) ∧ V.cell? ⟨w.heap.size, 1, none⟩ = some (.int .i64 R.base) ∧ V.cell? ⟨w.heap.size, 2, none⟩ = some (.slice ao R.sp.length c) ∧ V.cell? ⟨w.heap.size, 3, none⟩ = some (.int .i64 R.mv) ∧ V.cell? ⟨w.heap.size, 4, none⟩ = some (.slice b R.cut.length d)) := hid (fun V hV => by
      have h9 := (hV.block _ (by omega)).trans hz
      exact ⟨cell_in h9 0 _ rfl, cell_in h9 1 _ rfl, cell_in h9 2 _ rfl, cell_in h9 3 _ rfl, cell_in h9 4 _ rfl⟩)
    clear hb hz hs
    obtain ⟨q0, q1, q2, q3, q4⟩ := HKR.out w1 (Below.refl _ _)
    go_wp2_with (first | (go_at_call 115; refine (HC _).mono ?_; rintro en w3 ⟨rfl, rfl⟩))
    go_ret
    exact ⟨by simp, HB1.out⟩

def cutsB (R : Rou) (k : Nat) (f K : List UInt8) : Bool := decide (K.length ≤ 600) && (Op.bytesLess f K && Op.bytesLess K (toL R.sp k))
set_option maxHeartbeats 4000000 in
theorem cuts_any {w : World} {R : Rou} {ao b b2 : Option Addr} {c d d2 : Nat} {K : List UInt8} (hr : OwsN w (.slice ao R.sp.length c) R.sp) {k : Nat} {o : Ow} (hk : R.sp[k]? = some o) (hK : Rd w (.slice b2 K.length d2) K) : Calls Try.prog 138 #[.agg #[.int .i64 R.ep, .int .i64 R.base, .slice ao R.sp.length c, .int .i64 R.mv, .slice b R.cut.length d], .int .i64 (k : Int), .slice b2 K.length d2] w (AnsP w (.bool (cutsB R k o.f K))) := by
  have HR := hid hr
  have HK := hid hK
  have HO := hid hk
  clear hr hK hk
  unfold cutsB
  go_enter Try.func138, Try.ntmps138
  go_upto_region 1 with fail
  have hb := (Below.refl w.heap.size w).alloc (Nat.le_refl _) (.cells #[.int .i64 R.ep, .int .i64 R.base, .slice ao R.sp.length c, .int .i64 R.mv, .slice b R.cut.length d] 64)
  have hz := heap_alloc_new w (.cells #[.int .i64 R.ep, .int .i64 R.base, .slice ao R.sp.length c, .int .i64 R.mv, .slice b R.cut.length d] 64)
  have hs : (w.alloc (.cells #[.int .i64 R.ep, .int .i64 R.base, .slice ao R.sp.length c, .int .i64 R.mv, .slice b R.cut.length d] 64)).heap.size = w.heap.size + 1 := by simp
  generalize w.alloc (.cells #[.int .i64 R.ep, .int .i64 R.base, .slice ao R.sp.length c, .int .i64 R.mv, .slice b R.cut.length d] 64) = w1 at *
  have HB1 := hid hb
  have HKR : Hid (∀ V, Below w1.heap.size w1 V → V.cell? ⟨w.heap.size, 0, none⟩ = some (.int .i64 R.ep) ∧ V.cell? ⟨w.heap.size, 1, none⟩ = some (.int .i64 R.base) ∧ V.cell? ⟨w.heap.size, 2, none⟩ = some (.slice ao R.sp.length c) ∧ V.cell? ⟨w.heap.size, 3, none⟩ = some (.int .i64 R.mv) ∧ V.cell? ⟨w.heap.size, 4, none⟩ = some (.slice b R.cut.length d)) := hid (fun V hV => by
    have h9 := (hV.block _ (by omega)).trans hz
    exact ⟨cell_in h9 0 _ rfl, cell_in h9 1 _ rfl, cell_in h9 2 _ rfl, cell_in h9 3 _ rfl, cell_in h9 4 _ rfl⟩)
  clear hb hz hs
  obtain ⟨q0, q1, q2, q3, q4⟩ := HKR.out w1 (Below.refl _ _)
  have CK := hid (keys_any (HR.out.old HB1.out) HO.out (b := b) (d := d))
  go_upto_region 2 with (first | (go_at_call 134; refine CK.out.mono ?_; rintro en w3 ⟨a5, c5, a6, c6, rfl, hf, ht, hb3⟩; have HF := hid hf; have HT := hid ht; have HB3 := hid (below_step HB1.out hb3); clear hf ht hb3))
  have hb4 := HB3.out.alloc HB3.out.size (.cells #[.slice a5 o.f.length c5, .slice a6 (toL R.sp k).length c6] 66)
  have hz4 := heap_alloc_new w3 (.cells #[.slice a5 o.f.length c5, .slice a6 (toL R.sp k).length c6] 66)
  have HF4 := hid (HF.out.alloc (.cells #[.slice a5 o.f.length c5, .slice a6 (toL R.sp k).length c6] 66))
  have HT4 := hid (HT.out.alloc (.cells #[.slice a5 o.f.length c5, .slice a6 (toL R.sp k).length c6] 66))
  generalize w3.heap.size = g at *
  generalize w3.alloc (.cells #[.slice a5 o.f.length c5, .slice a6 (toL R.sp k).length c6] 66) = w4 at *
  have s0 := cell_in hz4 0 _ rfl
  have s1 := cell_in hz4 1 _ rfl
  have HB4 := hid hb4
  have CF := hid (cmp_call HF4.out (HK.out.old hb4))
  have CT := hid (cmp_call (HK.out.old hb4) HT4.out)
  have l1 := cmp_lss o.f K
  have l2 := cmp_lss K (toL R.sp k)
  clear hb4 hz4 HF HT CK q0 q1 q2 q3 q4
  by_cases h1 : K.length ≤ 600
  · have h1i : ((K.length : Nat) : Int) ≤ 600 := by omega
    rw [decide_eq_true h1]
    cases e1 : Op.bytesLess o.f K with
    | true =>
      rw [e1] at l1
      cases e2 : Op.bytesLess K (toL R.sp k) with
      | true =>
        rw [e2] at l2
        go_wp2_with (first | (go_at_call 129; refine CF.out.mono ?_; clear CF; rintro en w5 ⟨rfl, e5⟩; obtain rfl : w4 = w5 := e5.symm; clear e5) | (go_at_call 129; refine CT.out.mono ?_; rintro en w5 ⟨rfl, e5⟩; obtain rfl : w4 = w5 := e5.symm; clear e5))
        go_ret
        exact ⟨by simp [*], HB4.out⟩
      | false =>
        rw [e2] at l2
        go_wp2_with (first | (go_at_call 129; refine CF.out.mono ?_; clear CF; rintro en w5 ⟨rfl, e5⟩; obtain rfl : w4 = w5 := e5.symm; clear e5) | (go_at_call 129; refine CT.out.mono ?_; rintro en w5 ⟨rfl, e5⟩; obtain rfl : w4 = w5 := e5.symm; clear e5))
        go_ret
        exact ⟨by simp [*], HB4.out⟩
    | false =>
      rw [e1] at l1
      go_wp2_with (first | (go_at_call 129; refine CF.out.mono ?_; clear CF; rintro en w5 ⟨rfl, e5⟩; obtain rfl : w4 = w5 := e5.symm; clear e5))
      go_ret
      exact ⟨by simp [*], HB4.out⟩
  · have h1i : ¬ ((K.length : Nat) : Int) ≤ 600 := by omega
    rw [decide_eq_false h1]
    go_wp2_with fail
    go_ret
    exact ⟨by simp [*], HB4.out⟩

theorem cutB_at {R : Rou} {k : Nat} {o : Ow} (hm : ¬ R.mv = 0) (hp : plcI R.sp R.mv = (k : Int)) (ho : R.sp[k]? = some o) (hl : 0 < (toL R.sp k).length) : cutB R = cutsB R k o.f R.cut := by
  unfold cutB
  rw [if_neg hm, hp, Int.toNat_natCast, ho]
  show (decide (0 ≤ (k : Int)) && (decide (R.cut.length ≤ 600) && (Op.bytesLess o.f R.cut && inSpan o.f (toL R.sp k) R.cut))) = _
  rw [decide_eq_true (by omega : 0 ≤ (k : Int))]
  unfold inSpan cutsB
  have hl0 : ((toL R.sp k).length == 0) = false := by simp; intro h; rw [h] at hl; simp at hl
  rw [hl0]
  cases e1 : Op.bytesLess o.f R.cut with
  | false => simp
  | true => rw [(leq_not e1).1]; simp
set_option maxHeartbeats 4000000 in
theorem moveFits_any {w : World} {R : Rou} {ao b : Option Addr} {c d : Nat} (hr : OwsN w (.slice ao R.sp.length c) R.sp) (hcut : Rd w (.slice b R.cut.length d) R.cut) (hne : ∀ (k : Nat) o, R.sp[k]? = some o → 0 < o.f.length) : Calls Try.prog 117 #[.agg #[.int .i64 R.ep, .int .i64 R.base, .slice ao R.sp.length c, .int .i64 R.mv, .slice b R.cut.length d]] w (AnsP w (.bool (cutB R))) := by
  have HR := hid hr
  have HK := hid hcut
  have HN := hid hne
  clear hr hcut hne
  go_enter Try.func117, Try.ntmps117
  go_upto_region 1 with fail
  have hb := (Below.refl w.heap.size w).alloc (Nat.le_refl _) (.cells #[.int .i64 R.ep, .int .i64 R.base, .slice ao R.sp.length c, .int .i64 R.mv, .slice b R.cut.length d] 64)
  have hz := heap_alloc_new w (.cells #[.int .i64 R.ep, .int .i64 R.base, .slice ao R.sp.length c, .int .i64 R.mv, .slice b R.cut.length d] 64)
  have hs : (w.alloc (.cells #[.int .i64 R.ep, .int .i64 R.base, .slice ao R.sp.length c, .int .i64 R.mv, .slice b R.cut.length d] 64)).heap.size = w.heap.size + 1 := by simp
  generalize w.alloc (.cells #[.int .i64 R.ep, .int .i64 R.base, .slice ao R.sp.length c, .int .i64 R.mv, .slice b R.cut.length d] 64) = w1 at *
  have HB1 := hid hb
  have HKR : Hid (∀ V, Below w1.heap.size w1 V → V.cell? ⟨w.heap.size, 0, none⟩ = some (.int .i64 R.ep) ∧ V.cell? ⟨w.heap.size, 1, none⟩ = some (.int .i64 R.base) ∧ V.cell? ⟨w.heap.size, 2, none⟩ = some (.slice ao R.sp.length c) ∧ V.cell? ⟨w.heap.size, 3, none⟩ = some (.int .i64 R.mv) ∧ V.cell? ⟨w.heap.size, 4, none⟩ = some (.slice b R.cut.length d)) := hid (fun V hV => by
    have h9 := (hV.block _ (by omega)).trans hz
    exact ⟨cell_in h9 0 _ rfl, cell_in h9 1 _ rfl, cell_in h9 2 _ rfl, cell_in h9 3 _ rfl, cell_in h9 4 _ rfl⟩)
  clear hb hz hs
  obtain ⟨q0, q1, q2, q3, q4⟩ := HKR.out w1 (Below.refl _ _)
  by_cases hm : R.mv = 0
  · have HQ : Hid (cutB R = decide (R.cut.length = 0)) := hid (by unfold cutB; rw [if_pos hm])
    by_cases h0 : R.cut.length = 0
    · skip
      have h0i : ((R.cut.length : Nat) : Int) = 0 := by omega
      go_wp2_with fail
      go_ret
      exact ⟨by rw [HQ.out]; simp [h0i, h0], HB1.out⟩
    · skip
      have h0i : ¬ ((R.cut.length : Nat) : Int) = 0 := by omega
      go_wp2_with fail
      go_ret
      exact ⟨by rw [HQ.out, decide_eq_false h0]; simp; try (intro h; rw [h] at h0; simp at h0), HB1.out⟩
  · rcases plc_cases R.sp R.mv with hp | ⟨k, o, hp, ho⟩
    · have HQ : Hid (cutB R = false) := hid (by
        unfold cutB; rw [if_neg hm, hp]
        cases R.sp[(-1 : Int).toNat]? <;> simp)
      have CP := hid (place_any (R := R) (b := b) (d := d) (HR.out.old HB1.out) R.mv)
      rw [hp] at CP
      go_wp2_with (first | (go_at_call 136; refine CP.out.mono ?_; rintro en w3 ⟨rfl, hb3⟩; have HB3 := hid (below_step HB1.out hb3); obtain ⟨r0, r1, r2, r3, r4⟩ := HKR.out w3 hb3; clear hb3 q0 q1 q2 q3 q4))
      go_ret
      exact ⟨by rw [HQ.out]; simp, HB3.out⟩
    · have HQ := hid (cutB_at hm hp ho (by
        unfold toL
        cases h9 : R.sp[k + 1]? with
        | none => decide
        | some o2 => exact HN.out _ _ h9))
      have HO := hid ho
      clear ho
      have CP := hid (place_any (R := R) (b := b) (d := d) (HR.out.old HB1.out) R.mv)
      rw [hp] at CP
      clear hp
      go_wp2_with (first
        | (go_at_call 136; refine CP.out.mono ?_; rintro en w3 ⟨rfl, hb3⟩; have HB3 := hid (below_step HB1.out hb3); obtain ⟨r0, r1, r2, r3, r4⟩ := HKR.out w3 hb3; clear hb3 q0 q1 q2 q3 q4)
        | (go_at_call 138; refine (cuts_any (b := b) (d := d) (HR.out.old HB3.out) HO.out (HK.out.old HB3.out)).mono ?_; rintro en w5 ⟨rfl, hb5⟩; have HB5 := hid (below_step HB3.out hb5); clear hb5))
      go_ret
      exact ⟨by rw [HQ.out]; simp, HB5.out⟩
end Go.Proofs.Ytafcbelkhhjcoaa

set_option linter.unusedVariables false
set_option linter.unusedSimpArgs false
set_option maxRecDepth 100000
namespace Go.Proofs.Ytafcbelkhhjcoaa
open Go.RowKit Go.Deep
def spB (R : Rou) : Bool := !decide (R.sp.length < 1) && (!decide (R.sp.length > 4) && ((match R.sp[0]? with | some o => o.f == [120] | none => true) && allOk R R.sp.length))
set_option maxHeartbeats 16000000 in
theorem spansFit_any {w : World} {R : Rou} {ao b : Option Addr} {c d : Nat} (hr : OwsN w (.slice ao R.sp.length c) R.sp) (hbf : bfB R.base = true) : Calls Try.prog 116 #[.agg #[.int .i64 R.ep, .int .i64 R.base, .slice ao R.sp.length c, .int .i64 R.mv, .slice b R.cut.length d]] w (AnsP w (.bool (spB R))) := by
  have hlm := ows_form hr
  obtain ⟨ao', c', e, -, hm, hc⟩ := ows_cells hr
  cases e
  have HC := hid hc
  have HR := hid hr
  have HBF := hid hbf
  have HSB : Hid (spB R = (!decide (R.sp.length < 1) && (!decide (R.sp.length > 4) && ((match R.sp[0]? with | some o => o.f == [120] | none => true) && allOk R R.sp.length)))) := hid rfl
  have hb14 : 1 ≤ R.base ∧ R.base ≤ 4 := by unfold bfB at hbf; simpa using hbf
  have HB14 := hid hb14
  clear hr hm hc hbf hb14
  go_enter Try.func116, Try.ntmps116
  go_upto_region 1 with fail
  have hb := (Below.refl w.heap.size w).alloc (Nat.le_refl _) (.cells #[.int .i64 R.ep, .int .i64 R.base, .slice ao R.sp.length c, .int .i64 R.mv, .slice b R.cut.length d] 64)
  have hz := heap_alloc_new w (.cells #[.int .i64 R.ep, .int .i64 R.base, .slice ao R.sp.length c, .int .i64 R.mv, .slice b R.cut.length d] 64)
  have hs : (w.alloc (.cells #[.int .i64 R.ep, .int .i64 R.base, .slice ao R.sp.length c, .int .i64 R.mv, .slice b R.cut.length d] 64)).heap.size = w.heap.size + 1 := by simp
  generalize w.alloc (.cells #[.int .i64 R.ep, .int .i64 R.base, .slice ao R.sp.length c, .int .i64 R.mv, .slice b R.cut.length d] 64) = w1 at *
  have HB1 := hid hb
  have HKR : Hid (∀ V, Below w1.heap.size w1 V → V.cell? ⟨w.heap.size, 0, none⟩ = some (.int .i64 R.ep) ∧ V.cell? ⟨w.heap.size, 1, none⟩ = some (.int .i64 R.base) ∧ V.cell? ⟨w.heap.size, 2, none⟩ = some (.slice ao R.sp.length c) ∧ V.cell? ⟨w.heap.size, 3, none⟩ = some (.int .i64 R.mv) ∧ V.cell? ⟨w.heap.size, 4, none⟩ = some (.slice b R.cut.length d)) := hid (fun V hV => by
    have h9 := (hV.block _ (by omega)).trans hz
    exact ⟨cell_in h9 0 _ rfl, cell_in h9 1 _ rfl, cell_in h9 2 _ rfl, cell_in h9 3 _ rfl, cell_in h9 4 _ rfl⟩)
  clear hb hz hs
  obtain ⟨q0, q1, q2, q3, q4⟩ := HKR.out w1 (Below.refl _ _)
  by_cases g4 : R.sp.length < 1
  · have gi : ((R.sp.length : Nat) : Int) < 1 := by omega
    go_wp2_with fail
    go_ret
    exact ⟨by rw [HSB.out]; simp [g4], HB1.out⟩
  have gi4 : ¬ ((R.sp.length : Nat) : Int) < 1 := by omega
  by_cases g5 : R.sp.length > 4
  · have gi : ((R.sp.length : Nat) : Int) > 4 := by omega
    go_wp2_with fail
    go_ret
    exact ⟨by rw [HSB.out]; simp [g5], HB1.out⟩
  have gi5 : ¬ ((R.sp.length : Nat) : Int) > 4 := by omega
  obtain ⟨o0, ho0⟩ : ∃ o0, R.sp[0]? = some o0 := ⟨_, List.getElem?_eq_getElem (by omega)⟩
  obtain ⟨b1, of1, x1, d1, rfl, c0, c1, cr⟩ := HC.out 0 o0 ho0
  have k1 := (HB1.out.cell (block_cell c1)).trans c1
  have hsi : (0 : Int) < (R.sp.length : Int) := by omega
  have HY := hid (zrd_one (c := 120) (heap_alloc_new w1 (.cells #[.int .u8 120] 5)))
  have HX0 := hid ((cr.old HB1.out).alloc (.cells #[.int .u8 120] 5))
  have CB := hid (zequal_any _ HX0.out HY.out)
  have HRB2 : Hid (spB R = ((o0.f == [120]) && allOk R R.sp.length)) := hid (by rw [HSB.out, ho0]; simp [g4, g5])
  clear c0 c1 cr HSB
  simp only [Nat.zero_mul, Nat.add_zero] at k1
  cases hf0 : (o0.f == [120]) with
  | false =>
    rw [hf0] at CB HRB2
    go_wp2_with (first | (go_at_call 195; refine CB.out.mono ?_; rintro en w3 ⟨rfl, rfl⟩))
    go_ret
    exact ⟨by rw [HRB2.out]; rfl, HB1.out.alloc HB1.out.size _⟩
  | true =>
    rw [hf0] at CB HRB2
    have HSB : Hid (spB R = allOk R R.sp.length) := hid (by rw [HRB2.out]; simp)
    go_upto_region 3 with (first | (go_at_call 195; refine CB.out.mono ?_; rintro en w3 ⟨rfl, rfl⟩))
    have HX2 : Hid (Below w1.heap.size w1 (w1.alloc (.cells #[.int .u8 120] 5))) := hid ((Below.refl w1.heap.size w1).alloc (Nat.le_refl _) _)
    clear HY HX0 CB k1 q0 q1 q2 q3 q4 HRB2
    generalize w1.alloc (.cells #[.int .u8 120] 5) = w2 at *
    obtain ⟨q0, q1, q2, q3, q4⟩ := HKR.out w2 HX2.out
    go_wp2_with fail
    clear q0 q1 q2 q3 q4
    go_loopw [28] (fun j wr => ∃ k : Nat, k ≤ R.sp.length ∧ j = .int .i64 (k : Int) ∧ Hid (Below w1.heap.size w1 wr) ∧ Hid (allOk R k = true))
      (fun j _ => R.sp.length - (intOf j).toNat)
    case atStart => exact ⟨0, by omega, rfl, HX2, hid rfl⟩
    case round =>
      obtain ⟨k, hk, rfl, HBr, HA⟩ := hrel
      obtain ⟨q0, q1, q2, q3, q4⟩ := HKR.out _ HBr.out
      by_cases hlt : k < R.sp.length
      · obtain ⟨o, hu⟩ : ∃ o, R.sp[k]? = some o := ⟨_, List.getElem?_eq_getElem hlt⟩
        have HST := hid (allOk_step hu)
        have HOKD : Hid (okOw R k o = (!decide (o.g ≤ R.base) && (!decide (o.g > R.base + 4) && (decide (plcI R.sp o.g = (k : Int)) && (!decide (o.f.length < 1) && (begB o.f 120 && (!decide (o.f.length > 600) && prevB R.sp k o.f))))))) := hid rfl
        obtain ⟨b9, of9, x5, d5, e9, c0, c1, cr⟩ := HC.out k o hu
        cases e9
        have HBw := hid (below_step HB1.out HBr.out)
        have k0 := (HBw.out.cell (block_cell c0)).trans c0
        have k1 := (HBw.out.cell (block_cell c1)).trans c1
        have hki : (k : Int) < (R.sp.length : Int) := by omega
        have HRD := hid cr
        have HU := hid hu
        clear c0 c1 cr hu
        go_upto_region 6 with fail
        have hz5 := heap_alloc_new wr (.cells #[.int .i64 o.g, .slice x5 o.f.length d5] 140)
        have HB5 := hid (HBr.out.alloc HBr.out.size (.cells #[.int .i64 o.g, .slice x5 o.f.length d5] 140))
        generalize wr.heap.size = g5 at *
        generalize wr.alloc (.cells #[.int .i64 o.g, .slice x5 o.f.length d5] 140) = w5 at *
        have HRo : Hid (∀ V, Below w5.heap.size w5 V → V.cell? ⟨g5, 0, none⟩ = some (.int .i64 o.g) ∧ V.cell? ⟨g5, 1, none⟩ = some (.slice x5 o.f.length d5)) := hid (fun V hV => by
          have h9 := (hV.block _ (lt_of_block hz5)).trans hz5
          exact ⟨cell_in h9 0 _ rfl, cell_in h9 1 _ rfl⟩)
        have HB5w := hid (below_step HB1.out HB5.out)
        clear hz5 k0 k1 HBw q0 q1 q2 q3 q4 HBr
        obtain ⟨q0, q1, q2, q3, q4⟩ := HKR.out _ HB5.out
        obtain ⟨p0, p1⟩ := HRo.out _ (Below.refl _ _)
        have CS := hid (spare_any (w := w5) (R := R) (ao := some ⟨b1, of1, none⟩) (b := b) (c := c) (d := d) o.g HBF.out)
        cases e1 : spareB R o.g with
        | false =>
          have HOK : Hid (okOw R k o = false) := hid (by
            rw [HOKD.out]; unfold spareB at e1
            simp only [Bool.and_eq_false_iff, decide_eq_false_iff_not] at e1
            rcases e1 with e1 | e1
            · rw [decide_eq_true (by omega : o.g ≤ R.base)]; rfl
            · rw [decide_eq_true (by omega : o.g > R.base + 4)]; simp)
          rw [e1] at CS
          go_wp2_with (first | (go_at_call 140; refine CS.out.mono ?_; rintro en w6 ⟨rfl, hb6⟩; have HB6 := hid (below_step HB5w.out hb6); clear hb6))
          go_ret
          exact ⟨by rw [HSB.out, allOk_bad (k := k + 1) (by rw [HST.out, HOK.out]; simp) _ (by omega)]; simp, HB6.out⟩
        | true =>
          rw [e1] at CS
          have HE1 := hid e1
          clear e1
          by_cases hp : ¬ plcI R.sp o.g = (k : Int)
          · have HOK : Hid (okOw R k o = false) := hid (by rw [HOKD.out, decide_eq_false hp]; simp)
            have HPI := hid (plc_cases R.sp o.g)
            have CP := fun W hW => place_any (w := W) (R := R) (b := b) (d := d) (HR.out.old hW) o.g
            generalize plcI R.sp o.g = pz at *
            go_wp2_with (first
              | (go_at_call 140; refine CS.out.mono ?_; rintro en w6 ⟨rfl, hb6⟩; have HB6 := hid (below_step HB5w.out hb6); obtain ⟨r0, r1, r2, r3, r4⟩ := HKR.out _ (below_step HB5.out hb6); obtain ⟨v0, v1⟩ := HRo.out _ hb6; clear hb6 q0 q1 q2 q3 q4 p0 p1)
              | (go_at_call 136; refine (CP _ HB6.out).mono ?_; rintro en w7 ⟨rfl, hb7⟩; have HB7 := hid (below_step HB6.out hb7); clear hb7))
            go_ret
            exact ⟨by rw [HSB.out, allOk_bad (k := k + 1) (by rw [HST.out, HOK.out]; simp) _ (by omega)]; simp, HB7.out⟩
          have hp := Classical.not_not.1 hp
          have CP := fun W hW => place_any (w := W) (R := R) (b := b) (d := d) (HR.out.old hW) o.g
          rw [hp] at CP
          have HP := hid hp
          clear hp
          go_upto_region 8 with (first
              | (go_at_call 140; refine CS.out.mono ?_; rintro en w6 ⟨rfl, hb6⟩; have HB6 := hid hb6; obtain ⟨r0, r1, r2, r3, r4⟩ := HKR.out _ (below_step HB5.out hb6); obtain ⟨v0, v1⟩ := HRo.out _ hb6; clear hb6 q0 q1 q2 q3 q4 p0 p1)
              | (go_at_call 136; refine (CP _ (below_step HB5w.out HB6.out)).mono ?_; rintro en w7 ⟨rfl, hb7⟩; have HB7 := hid (below_step HB6.out hb7); clear hb7 r0 r1 r2 r3 r4 v0 v1))
          obtain ⟨p0, p1⟩ := HRo.out _ HB7.out
          have HB7w := hid (below_step HB5w.out HB7.out)
          have CG := hid (beg_any (HRD.out.old HB7w.out) 120)
          clear CP CS HB6
          cases e2 : begB o.f 120 with
          | false =>
            have HOK : Hid (okOw R k o = false) := hid (by rw [HOKD.out, e2]; simp)
            rw [e2] at CG
            go_wp2_with (first | (go_at_call 130; refine CG.out.mono ?_; rintro en w8 ⟨rfl, e8⟩; obtain rfl : w7 = w8 := e8.symm; clear e8))
            go_ret
            exact ⟨by rw [HSB.out, allOk_bad (k := k + 1) (by rw [HST.out, HOK.out]; simp) _ (by omega)]; simp, HB7w.out⟩
          | true =>
            rw [e2] at CG
            by_cases h6 : o.f.length > 600
            · have h6i : ((o.f.length : Nat) : Int) > 600 := by omega
              have HOK : Hid (okOw R k o = false) := hid (by rw [HOKD.out, decide_eq_true h6]; simp)
              go_wp2_with (first | (go_at_call 130; refine CG.out.mono ?_; rintro en w8 ⟨rfl, e8⟩; obtain rfl : w7 = w8 := e8.symm; clear e8))
              go_ret
              exact ⟨by rw [HSB.out, allOk_bad (k := k + 1) (by rw [HST.out, HOK.out]; simp) _ (by omega)]; simp, HB7w.out⟩
            have h6i : ¬ ((o.f.length : Nat) : Int) > 600 := by omega
            have HPV : Hid (okOw R k o = prevB R.sp k o.f) := hid (by
              have hE := HE1.out; unfold spareB at hE
              simp only [Bool.and_eq_true, decide_eq_true_eq] at hE
              rw [HOKD.out, decide_eq_false (by omega : ¬ o.g ≤ R.base), decide_eq_false (by omega : ¬ o.g > R.base + 4), decide_eq_true HP.out, decide_eq_false (beg_ne e2), e2, decide_eq_false h6]; simp)
            clear HOKD e2 h6 HE1
            go_upto_region 10 with (first | (go_at_call 130; refine CG.out.mono ?_; rintro en w8 ⟨rfl, e8⟩; obtain rfl : w7 = w8 := e8.symm; clear e8))
            have HB6r := hid (below_step HB5.out HB7.out)
            clear CG p0 p1 h6i
            have HB6 := HB7
            cases k with
            | zero =>
              refine wp_region_noPanic ?_
              refine wp_region_held_drew (S := fun V => Hid (Below w7.heap.size w7 V)) (by kernel_rfl) (hid (Below.drew (Below.refl _ _))) (fun hHeld => ?_)
              generalize w7.drew = Wd at *
              refine tkH 0 (.int .i64 0) rfl (by kernel_rfl) (fun _ _ _ => False.elim) hHeld (Or.inl ⟨by rfl, fun W9 hW => by clear hHeld hW; simp only [jA, jB, jC]; go_simp⟩) ?_
              try simp only [Act.put, jA, jB, jC, jD, jE, jF]
              refine tkH 1 (.bool false) rfl (by kernel_rfl) (fun _ _ _ => False.elim) hHeld (Or.inl ⟨by rfl, fun W9 hW => by clear hHeld hW; simp only [jA, jB, jC]; go_simp⟩) ?_
              try simp only [Act.put, jA, jB, jC, jD, jE, jF]
              refine tkH 2 (.bool false) rfl (by kernel_rfl) (fun _ _ _ => False.elim) hHeld (Or.inl ⟨by rfl, fun W9 hW => by clear hHeld hW; simp only [jA, jB, jC]; go_simp⟩) ?_
              try simp only [Act.put, jA, jB, jC, jD, jE, jF]
              refine tkH 3 (undef) rfl (by kernel_rfl) (fun _ _ _ => False.elim) hHeld (Or.inr ⟨by rfl, by rfl⟩) ?_
              try simp only [Act.put, jA, jB, jC, jD, jE, jF]
              refine tkH 4 (undef) rfl (by kernel_rfl) (fun _ _ _ => False.elim) hHeld (Or.inr ⟨by rfl, by rfl⟩) ?_
              try simp only [Act.put, jA, jB, jC, jD, jE, jF]
              refine tkH 5 (undef) rfl (by kernel_rfl) (fun _ _ _ => False.elim) hHeld (Or.inr ⟨by rfl, by rfl⟩) ?_
              try simp only [Act.put, jA, jB, jC, jD, jE, jF]
              refine tkH 6 (undef) rfl (by kernel_rfl) (fun _ _ _ => False.elim) hHeld (Or.inr ⟨by rfl, by rfl⟩) ?_
              try simp only [Act.put, jA, jB, jC, jD, jE, jF]
              refine tkH 7 (undef) rfl (by kernel_rfl) (fun _ _ _ => False.elim) hHeld (Or.inr ⟨by rfl, by rfl⟩) ?_
              try simp only [Act.put, jA, jB, jC, jD, jE, jF]
              refine tkH 8 (undef) rfl (by kernel_rfl) (fun _ _ _ => False.elim) hHeld (Or.inr ⟨by rfl, by rfl⟩) ?_
              try simp only [Act.put, jA, jB, jC, jD, jE, jF]
              refine tkH 9 (undef) rfl (by kernel_rfl) (fun _ _ _ => False.elim) hHeld (Or.inr ⟨by rfl, by rfl⟩) ?_
              try simp only [Act.put, jA, jB, jC, jD, jE, jF]
              refine tkH 10 (undef) rfl (by kernel_rfl) (fun _ _ _ => False.elim) hHeld (Or.inr ⟨by rfl, by rfl⟩) ?_
              try simp only [Act.put, jA, jB, jC, jD, jE, jF]
              refine tkH 11 (undef) rfl (by kernel_rfl) (fun _ _ _ => False.elim) hHeld (Or.inr ⟨by rfl, by rfl⟩) ?_
              try simp only [Act.put, jA, jB, jC, jD, jE, jF]
              refine rdH 12 (by kernel_rfl) rfl fun K hK => ?_
              rw [if_neg (by intro h; exact absurd (show false = true from h) (by decide))]
              refine hK.out _ _ hHeld (fun hHeld => ?_)
              clear hK K
              try simp only [Act.put, jA, jB, jC, jD, jE, jF]
              refine tkH 13 (undef) rfl (by kernel_rfl) (fun _ _ _ => False.elim) hHeld (Or.inr ⟨by rfl, by rfl⟩) ?_
              try simp only [Act.put, jA, jB, jC, jD, jE, jF]
              refine tkH 14 (.bool false) rfl (by kernel_rfl) (fun _ _ _ => False.elim) hHeld (Or.inl ⟨by rfl, fun W9 hW => by clear hHeld hW; simp only [jA, jB, jC]; go_simp⟩) ?_
              try simp only [Act.put, jA, jB, jC, jD, jE, jF]
              refine wpAnyH_done (by kernel_rfl) (NoPanic.normal ?_) _
              have HB9 := hid (below_step HB6r.out hHeld.out)
              clear hHeld
              go_wp2_with fail
              go_roundw
              case rel => exact ⟨1, by omega, by go_num, HB9, hid (by rw [HST.out, HA.out, HPV.out]; rfl)⟩
              case measure => simp [intOf]; omega
            | succ j =>
              obtain ⟨u, hu⟩ : ∃ u, R.sp[j]? = some u := ⟨_, List.getElem?_eq_getElem (by omega)⟩
              have HPB : Hid (prevB R.sp (j + 1) o.f = Op.bytesLess u.f o.f) := hid (by show (match R.sp[j]? with | some p => Op.bytesLess p.f o.f | none => true) = _; rw [hu])
              obtain ⟨b8, of8, x6, d6, e9, c0, c1, cr⟩ := HC.out j u hu
              cases e9
              have HK6 : Hid (∀ V, Below w7.heap.size w7 V → V.cell? ⟨b1, of1 + j * 2 + 1, none⟩ = some (.slice x6 u.f.length d6)) := hid (fun V hV => by
                have h1 := below_step HB7w.out hV
                have h2 := (h1.cell (block_cell c1)).trans c1
                simpa using h2)
              have CC := hid (fun V (hV : Below w7.heap.size w7 V) => cmp_call (cr.old (below_step HB7w.out hV)) (HRD.out.old (below_step HB7w.out hV)))
              have l1 := cmp_geq u.f o.f
              have hj0 : ((j + 1 : Nat) : Int) > 0 := by omega
              have hj1 : IntKind.i64.wrap (((j + 1 : Nat) : Int) - 1) = (j : Int) := by rw [IntWalk.i64_in _ (by omega)]; omega
              have hjw : IntKind.i64.wrap (j : Int) = (j : Int) := IntWalk.i64_in _ (by omega)
              have hji : (j : Int) < (R.sp.length : Int) := by omega
              clear c0 c1 cr hu
              cases e3 : Op.bytesLess u.f o.f with
              | true =>
                rw [e3] at l1
                refine wp_region_noPanic ?_
                refine wp_region_held_drew (S := fun V => Hid (Below w7.heap.size w7 V)) (by kernel_rfl) (hid (Below.drew (Below.refl _ _))) (fun hHeld => ?_)
                generalize w7.drew = Wd at *
                refine tkH 0 (.int .i64 ((j + 1 : Nat) : Int)) rfl (by kernel_rfl) (fun _ _ _ => False.elim) hHeld (Or.inl ⟨by rfl, fun W9 hW => by clear hHeld hW; simp only [jA, jB, jC]; go_simp⟩) ?_
                try simp only [Act.put, jA, jB, jC, jD, jE, jF]
                refine tkH 1 (.bool true) rfl (by kernel_rfl) (fun _ _ _ => False.elim) hHeld (Or.inl ⟨by rfl, fun W9 hW => by clear hHeld hW; simp only [jA, jB, jC]; go_simp⟩) ?_
                try simp only [Act.put, jA, jB, jC, jD, jE, jF]
                refine tkH 2 (.bool true) rfl (by kernel_rfl) (fun _ _ _ => False.elim) hHeld (Or.inl ⟨by rfl, fun W9 hW => by clear hHeld hW; simp only [jA, jB, jC]; go_simp⟩) ?_
                try simp only [Act.put, jA, jB, jC, jD, jE, jF]
                refine tkH 3 (.pointer (some ⟨w.heap.size, 2, none⟩)) rfl (by kernel_rfl) (fun _ _ _ => False.elim) hHeld (Or.inl ⟨by rfl, fun W9 hW => by clear hHeld hW; simp only [jA, jB, jC]; go_simp⟩) ?_
                try simp only [Act.put, jA, jB, jC, jD, jE, jF]
                refine tkH 4 (.slice (some ⟨b1, of1, none⟩) R.sp.length c) rfl (by kernel_rfl) (fun _ _ _ => False.elim) hHeld (Or.inl ⟨by rfl, fun W9 hW => by obtain ⟨q0, q1, q2, q3, q4⟩ := HKR.out _ (HB6r.out.trans (hW.out.mono HB6r.out.size)); clear hHeld hW; simp only [jA, jB, jC]; go_simp⟩) ?_
                try simp only [Act.put, jA, jB, jC, jD, jE, jF]
                refine tkH 5 (.int .i64 ((j + 1 : Nat) : Int)) rfl (by kernel_rfl) (fun _ _ _ => False.elim) hHeld (Or.inl ⟨by rfl, fun W9 hW => by clear hHeld hW; simp only [jA, jB, jC]; go_simp⟩) ?_
                try simp only [Act.put, jA, jB, jC, jD, jE, jF]
                refine tkH 6 (.int .i64 (j : Int)) rfl (by kernel_rfl) (fun _ _ _ => False.elim) hHeld (Or.inl ⟨by rfl, fun W9 hW => by clear hHeld hW; simp only [jA, jB, jC]; go_simp⟩) ?_
                try simp only [Act.put, jA, jB, jC, jD, jE, jF]
                refine tkH 7 (.pointer (some ⟨b1, of1 + j * 2, none⟩)) rfl (by kernel_rfl) (fun _ _ _ => False.elim) hHeld (Or.inl ⟨by rfl, fun W9 hW => by clear hHeld hW; simp only [jA, jB, jC]; go_simp⟩) ?_
                try simp only [Act.put, jA, jB, jC, jD, jE, jF]
                refine tkH 8 (.pointer (some ⟨b1, of1 + j * 2 + 1, none⟩)) rfl (by kernel_rfl) (fun _ _ _ => False.elim) hHeld (Or.inl ⟨by rfl, fun W9 hW => by clear hHeld hW; simp only [jA, jB, jC]; go_simp⟩) ?_
                try simp only [Act.put, jA, jB, jC, jD, jE, jF]
                refine tkH 9 (.slice x6 u.f.length d6) rfl (by kernel_rfl) (fun _ _ _ => False.elim) hHeld (Or.inl ⟨by rfl, fun W9 hW => by have c9 := HK6.out _ hW.out; clear hHeld hW; simp only [jA, jB, jC]; go_simp⟩) ?_
                try simp only [Act.put, jA, jB, jC, jD, jE, jF]
                refine tkH 10 (.pointer (some ⟨g5, 1, none⟩)) rfl (by kernel_rfl) (fun _ _ _ => False.elim) hHeld (Or.inl ⟨by rfl, fun W9 hW => by clear hHeld hW; simp only [jA, jB, jC]; go_simp⟩) ?_
                try simp only [Act.put, jA, jB, jC, jD, jE, jF]
                refine tkH 11 (.slice x5 o.f.length d5) rfl (by kernel_rfl) (fun _ _ _ => False.elim) hHeld (Or.inl ⟨by rfl, fun W9 hW => by obtain ⟨p0, p1⟩ := HRo.out _ (HB6.out.trans (hW.out.mono HB6.out.size)); clear hHeld hW; simp only [jA, jB, jC]; go_simp⟩) ?_
                try simp only [Act.put, jA, jB, jC, jD, jE, jF]
                refine rdH 12 (by kernel_rfl) rfl fun K hK => ?_
                rw [if_pos (by rfl)]
                go_simp
                go_wp2_with (first | (go_at_call 129; refine (CC.out _ hHeld.out).mono ?_; rintro en w8 ⟨rfl, e8⟩; obtain rfl := e8))
                refine hK.out _ _ hHeld (fun hHeld => ?_)
                clear hK K
                try simp only [Act.put, jA, jB, jC, jD, jE, jF]
                refine tkH 13 (.bool false) rfl (by kernel_rfl) (fun _ _ _ => False.elim) hHeld (Or.inl ⟨by rfl, fun W9 hW => by clear hHeld hW; simp only [jA, jB, jC]; go_simp⟩) ?_
                try simp only [Act.put, jA, jB, jC, jD, jE, jF]
                refine tkH 14 (.bool false) rfl (by kernel_rfl) (fun _ _ _ => False.elim) hHeld (Or.inl ⟨by rfl, fun W9 hW => by clear hHeld hW; simp only [jA, jB, jC]; go_simp⟩) ?_
                try simp only [Act.put, jA, jB, jC, jD, jE, jF]
                refine wpAnyH_done (by kernel_rfl) (NoPanic.normal ?_) _
                have HB9 := hid (below_step HB6r.out hHeld.out)
                clear hHeld
                go_wp2_with fail
                go_roundw
                case rel => exact ⟨j + 1 + 1, by omega, by go_num, HB9, hid (by rw [HST.out, HA.out, HPV.out, HPB.out, e3]; rfl)⟩
                case measure => simp [intOf]; omega
              | false =>
                rw [e3] at l1
                refine wp_region_noPanic ?_
                refine wp_region_held_drew (S := fun V => Hid (Below w7.heap.size w7 V)) (by kernel_rfl) (hid (Below.drew (Below.refl _ _))) (fun hHeld => ?_)
                generalize w7.drew = Wd at *
                refine tkH 0 (.int .i64 ((j + 1 : Nat) : Int)) rfl (by kernel_rfl) (fun _ _ _ => False.elim) hHeld (Or.inl ⟨by rfl, fun W9 hW => by clear hHeld hW; simp only [jA, jB, jC]; go_simp⟩) ?_
                try simp only [Act.put, jA, jB, jC, jD, jE, jF]
                refine tkH 1 (.bool true) rfl (by kernel_rfl) (fun _ _ _ => False.elim) hHeld (Or.inl ⟨by rfl, fun W9 hW => by clear hHeld hW; simp only [jA, jB, jC]; go_simp⟩) ?_
                try simp only [Act.put, jA, jB, jC, jD, jE, jF]
                refine tkH 2 (.bool true) rfl (by kernel_rfl) (fun _ _ _ => False.elim) hHeld (Or.inl ⟨by rfl, fun W9 hW => by clear hHeld hW; simp only [jA, jB, jC]; go_simp⟩) ?_
                try simp only [Act.put, jA, jB, jC, jD, jE, jF]
                refine tkH 3 (.pointer (some ⟨w.heap.size, 2, none⟩)) rfl (by kernel_rfl) (fun _ _ _ => False.elim) hHeld (Or.inl ⟨by rfl, fun W9 hW => by clear hHeld hW; simp only [jA, jB, jC]; go_simp⟩) ?_
                try simp only [Act.put, jA, jB, jC, jD, jE, jF]
                refine tkH 4 (.slice (some ⟨b1, of1, none⟩) R.sp.length c) rfl (by kernel_rfl) (fun _ _ _ => False.elim) hHeld (Or.inl ⟨by rfl, fun W9 hW => by obtain ⟨q0, q1, q2, q3, q4⟩ := HKR.out _ (HB6r.out.trans (hW.out.mono HB6r.out.size)); clear hHeld hW; simp only [jA, jB, jC]; go_simp⟩) ?_
                try simp only [Act.put, jA, jB, jC, jD, jE, jF]
                refine tkH 5 (.int .i64 ((j + 1 : Nat) : Int)) rfl (by kernel_rfl) (fun _ _ _ => False.elim) hHeld (Or.inl ⟨by rfl, fun W9 hW => by clear hHeld hW; simp only [jA, jB, jC]; go_simp⟩) ?_
                try simp only [Act.put, jA, jB, jC, jD, jE, jF]
                refine tkH 6 (.int .i64 (j : Int)) rfl (by kernel_rfl) (fun _ _ _ => False.elim) hHeld (Or.inl ⟨by rfl, fun W9 hW => by clear hHeld hW; simp only [jA, jB, jC]; go_simp⟩) ?_
                try simp only [Act.put, jA, jB, jC, jD, jE, jF]
                refine tkH 7 (.pointer (some ⟨b1, of1 + j * 2, none⟩)) rfl (by kernel_rfl) (fun _ _ _ => False.elim) hHeld (Or.inl ⟨by rfl, fun W9 hW => by clear hHeld hW; simp only [jA, jB, jC]; go_simp⟩) ?_
                try simp only [Act.put, jA, jB, jC, jD, jE, jF]
                refine tkH 8 (.pointer (some ⟨b1, of1 + j * 2 + 1, none⟩)) rfl (by kernel_rfl) (fun _ _ _ => False.elim) hHeld (Or.inl ⟨by rfl, fun W9 hW => by clear hHeld hW; simp only [jA, jB, jC]; go_simp⟩) ?_
                try simp only [Act.put, jA, jB, jC, jD, jE, jF]
                refine tkH 9 (.slice x6 u.f.length d6) rfl (by kernel_rfl) (fun _ _ _ => False.elim) hHeld (Or.inl ⟨by rfl, fun W9 hW => by have c9 := HK6.out _ hW.out; clear hHeld hW; simp only [jA, jB, jC]; go_simp⟩) ?_
                try simp only [Act.put, jA, jB, jC, jD, jE, jF]
                refine tkH 10 (.pointer (some ⟨g5, 1, none⟩)) rfl (by kernel_rfl) (fun _ _ _ => False.elim) hHeld (Or.inl ⟨by rfl, fun W9 hW => by clear hHeld hW; simp only [jA, jB, jC]; go_simp⟩) ?_
                try simp only [Act.put, jA, jB, jC, jD, jE, jF]
                refine tkH 11 (.slice x5 o.f.length d5) rfl (by kernel_rfl) (fun _ _ _ => False.elim) hHeld (Or.inl ⟨by rfl, fun W9 hW => by obtain ⟨p0, p1⟩ := HRo.out _ (HB6.out.trans (hW.out.mono HB6.out.size)); clear hHeld hW; simp only [jA, jB, jC]; go_simp⟩) ?_
                try simp only [Act.put, jA, jB, jC, jD, jE, jF]
                refine rdH 12 (by kernel_rfl) rfl fun K hK => ?_
                rw [if_pos (by rfl)]
                go_simp
                go_wp2_with (first | (go_at_call 129; refine (CC.out _ hHeld.out).mono ?_; rintro en w8 ⟨rfl, e8⟩; obtain rfl := e8))
                refine hK.out _ _ hHeld (fun hHeld => ?_)
                clear hK K
                try simp only [Act.put, jA, jB, jC, jD, jE, jF]
                refine tkH 13 (.bool true) rfl (by kernel_rfl) (fun _ _ _ => False.elim) hHeld (Or.inl ⟨by rfl, fun W9 hW => by clear hHeld hW; simp only [jA, jB, jC]; go_simp⟩) ?_
                try simp only [Act.put, jA, jB, jC, jD, jE, jF]
                refine tkH 14 (.bool true) rfl (by kernel_rfl) (fun _ _ _ => False.elim) hHeld (Or.inl ⟨by rfl, fun W9 hW => by clear hHeld hW; simp only [jA, jB, jC]; go_simp⟩) ?_
                try simp only [Act.put, jA, jB, jC, jD, jE, jF]
                refine wpAnyH_done (by kernel_rfl) (NoPanic.normal ?_) _
                have HB9 := hid (below_step HB6r.out hHeld.out)
                clear hHeld
                have HOK : Hid (okOw R (j + 1) o = false) := hid (by rw [HPV.out, HPB.out, e3])
                go_wp2_with fail
                go_ret
                exact ⟨by rw [HSB.out, allOk_bad (k := j + 1 + 1) (by rw [HST.out, HOK.out]; simp) _ (by omega)]; simp, below_step HB1.out HB9.out⟩
      · obtain rfl : k = R.sp.length := by omega
        have HB9 := hid (below_step HB1.out ‹Hid (Below w1.heap.size w1 wr)›.out)
        go_wp2_with fail
        go_ret
        exact ⟨by rw [HSB.out, HA.out]; simp, HB9.out⟩
end Go.Proofs.Ytafcbelkhhjcoaa

set_option linter.unusedVariables false
set_option linter.unusedSimpArgs false
set_option maxRecDepth 100000
namespace Go.Proofs.Ytafcbelkhhjcoaa
open Go.RowKit Go.Deep

theorem right_eq (R : Rou) : rightB R = (!decide (R.ep < 0) && (bfB R.base && (spB R && cutB R))) := by
  unfold rightB spB bfB
  by_cases h1 : R.base < 1
  · rw [decide_eq_true h1, decide_eq_false (by omega : ¬ 1 ≤ R.base)]; simp
  · by_cases h2 : R.base > 4
    · rw [decide_eq_true h2, decide_eq_false (by omega : ¬ R.base ≤ 4)]; simp
    · rw [decide_eq_false h1, decide_eq_false h2, decide_eq_true (by omega : 1 ≤ R.base), decide_eq_true (by omega : R.base ≤ 4)]
      cases R.sp[0]? <;> simp only [Bool.not_false, Bool.true_and, Bool.and_assoc]
theorem sp_ne {R : Rou} (h : spB R = true) : ∀ (k : Nat) o, R.sp[k]? = some o → 0 < o.f.length := by
  intro k o hk
  unfold spB at h
  simp only [Bool.and_eq_true] at h
  have hok := allOk_at _ h.2.2.2 k o (List.getElem?_eq_some_iff.1 hk).1 hk
  unfold okOw at hok
  simp only [Bool.and_eq_true, Bool.not_eq_true', decide_eq_false_iff_not] at hok
  omega
set_option maxHeartbeats 4000000 in
theorem codeRight_any {w : World} {R : Rou} {ao b : Option Addr} {c d : Nat} (hr : OwsN w (.slice ao R.sp.length c) R.sp) (hcut : Rd w (.slice b R.cut.length d) R.cut) : Calls Try.prog 43 #[.agg #[.int .i64 R.ep, .int .i64 R.base, .slice ao R.sp.length c, .int .i64 R.mv, .slice b R.cut.length d]] w (AnsP w (.bool (rightB R))) := by
  have HR := hid hr
  have HK := hid hcut
  have HQ := hid (right_eq R)
  clear hr hcut
  go_enter Try.func43, Try.ntmps43
  go_upto_region 1 with fail
  have hb := (Below.refl w.heap.size w).alloc (Nat.le_refl _) (.cells #[.int .i64 R.ep, .int .i64 R.base, .slice ao R.sp.length c, .int .i64 R.mv, .slice b R.cut.length d] 64)
  have hz := heap_alloc_new w (.cells #[.int .i64 R.ep, .int .i64 R.base, .slice ao R.sp.length c, .int .i64 R.mv, .slice b R.cut.length d] 64)
  have hs : (w.alloc (.cells #[.int .i64 R.ep, .int .i64 R.base, .slice ao R.sp.length c, .int .i64 R.mv, .slice b R.cut.length d] 64)).heap.size = w.heap.size + 1 := by simp
  generalize w.alloc (.cells #[.int .i64 R.ep, .int .i64 R.base, .slice ao R.sp.length c, .int .i64 R.mv, .slice b R.cut.length d] 64) = w1 at *
  have HB1 := hid hb
  have HKR : Hid (∀ V, Below w1.heap.size w1 V → V.cell? ⟨w.heap.size, 0, none⟩ = some (.int .i64 R.ep) ∧ V.cell? ⟨w.heap.size, 1, none⟩ = some (.int .i64 R.base) ∧ V.cell? ⟨w.heap.size, 2, none⟩ = some (.slice ao R.sp.length c) ∧ V.cell? ⟨w.heap.size, 3, none⟩ = some (.int .i64 R.mv) ∧ V.cell? ⟨w.heap.size, 4, none⟩ = some (.slice b R.cut.length d)) := hid (fun V hV => by
    have h9 := (hV.block _ (by omega)).trans hz
    exact ⟨cell_in h9 0 _ rfl, cell_in h9 1 _ rfl, cell_in h9 2 _ rfl, cell_in h9 3 _ rfl, cell_in h9 4 _ rfl⟩)
  clear hb hz hs
  obtain ⟨q0, q1, q2, q3, q4⟩ := HKR.out w1 (Below.refl _ _)
  have hd1 : decide (R.ep ≥ 0) = !decide (R.ep < 0) := by
    by_cases h : R.ep < 0
    · rw [decide_eq_true h, decide_eq_false (by omega)]; rfl
    · rw [decide_eq_false h, decide_eq_true (by omega)]; rfl
  by_cases h1 : R.ep < 0
  · rw [decide_eq_true h1] at HQ hd1
    have h1n : ¬ R.ep ≥ 0 := by omega
    go_wp2_with fail
    go_ret
    exact ⟨by rw [HQ.out]; simp, HB1.out⟩
  rw [decide_eq_false h1] at HQ hd1
  have h1n : R.ep ≥ 0 := by omega
  have CB := fun W => bf_any W R.base
  cases h2 : bfB R.base with
  | false =>
    rw [h2] at CB HQ
    go_wp2_with (first | (go_at_call 115; refine (CB _).mono ?_; rintro en w3 ⟨rfl, e3⟩; obtain rfl : w1 = w3 := e3.symm; clear e3))
    go_ret
    exact ⟨by rw [HQ.out]; simp, HB1.out⟩
  | true =>
    rw [h2] at CB HQ
    have CS := hid (spansFit_any (b := b) (d := d) (HR.out.old HB1.out) h2)
    cases h3 : spB R with
    | false =>
      rw [h3] at CS HQ
      go_wp2_with (first
        | (go_at_call 115; refine (CB _).mono ?_; rintro en w3 ⟨rfl, e3⟩; obtain rfl : w1 = w3 := e3.symm; clear e3)
        | (go_at_call 116; refine CS.out.mono ?_; rintro en w4 ⟨rfl, hb4⟩; have HB4 := hid (below_step HB1.out hb4); clear hb4))
      go_ret
      exact ⟨by rw [HQ.out]; simp, HB4.out⟩
    | true =>
      rw [h3] at CS HQ
      have HN := hid (sp_ne h3)
      go_wp2_with (first
        | (go_at_call 115; refine (CB _).mono ?_; rintro en w3 ⟨rfl, e3⟩; obtain rfl : w1 = w3 := e3.symm; clear e3)
        | (go_at_call 116; refine CS.out.mono ?_; rintro en w4 ⟨rfl, hb4⟩; have HB4 := hid (below_step HB1.out hb4); obtain ⟨r0, r1, r2, r3, r4⟩ := HKR.out _ hb4; clear hb4 q0 q1 q2 q3 q4)
        | (go_at_call 117; refine (moveFits_any (HR.out.old HB4.out) (HK.out.old HB4.out) HN.out).mono ?_; rintro en w5 ⟨rfl, hb5⟩; have HB5 := hid (below_step HB4.out hb5); clear hb5))
      go_ret
      exact ⟨by rw [HQ.out]; simp, HB5.out⟩
end Go.Proofs.Ytafcbelkhhjcoaa

set_option linter.unusedVariables false
set_option linter.unusedSimpArgs false
set_option maxRecDepth 100000
namespace Go.Proofs.Ytafcbelkhhjcoaa
open Go.RowKit Go.ChangeShapes Go.WideShapes Go.ChangeAt Go.Deep

section
variable {H : Type} {enc : TypeId × Value → H} {W : World}

theorem rws_hmap {α : Type} {n : Nat} {x : Value} {M : List (List Value)} {l : List α} (row : α → List Value) (h : Rws n W x M) (hl : M.length = l.length) (hr : ∀ (i : Nat) r a, M[i]? = some r → l[i]? = some a → r = row a) : Rws n W x (l.map row) := by
  have hM : M = l.map row := by
    apply List.ext_getElem?
    intro i
    rcases Nat.lt_or_ge i l.length with hi | hi
    · have a1 : M[i]? = some (M[i]'(by omega)) := List.getElem?_eq_getElem (by omega)
      have a2 : l[i]? = some l[i] := List.getElem?_eq_getElem hi
      rw [List.getElem?_map, a2, a1, hr i _ _ a1 a2]; rfl
    · rw [List.getElem?_eq_none (by omega), List.getElem?_eq_none (by rw [List.length_map]; omega)]
  exact hM ▸ h
theorem flat_bv (l : List UInt8) : (l.map fun z => [bv z]).flatten = l.map bv := by
  induction l with
  | nil => rfl
  | cons q l ih => rw [List.map_cons, List.flatten_cons, ih]; rfl
theorem rd_of_rws {x : Value} {l : List UInt8} (h : Rws 1 W x (l.map fun z => [bv z])) : Rd W x l := by
  obtain ⟨ao, c, h1, h2, h3, h4, -, h6⟩ := h
  rw [List.length_map] at h1 h2
  refine ⟨ao, c, h1, h2, h3, h4, fun a ha j u hu => h6 a ha j u ?_⟩
  rw [flat_bv]; exact hu
theorem bytes_in {f : Nat} {cs : List Value} {y : DataW H × List MemPlace} (hf : DataW.trod enc Try.prog W 0 (fun _ => true) true f 62 cs = some y) :
    ∃ (a : Option Addr) (c : Nat) (l : List UInt8), cs = [.slice a l.length c] ∧ Rd W (.slice a l.length c) l ∧ ∀ K, (∀ k ∈ y.1.weights Try.prog 62, k ≤ K) → l.length ≤ K := by
  obtain ⟨x, M, l, h1, h2, h3, h4, h5, h6, h7⟩ := list_in (enc := enc) (W := W) (fun r (z : UInt8) => r = [bv z]) (fun _ _ => True) 1 62 5 Try.underlying62 (by kernel_rfl) (by decide) (by decide +kernel) (fun m cs y h => by
    obtain ⟨i, rfl, -, hw⟩ := DataW.trod_int Try.underlying5 h
    have hb := bounds_u8 hw
    refine ⟨UInt8.ofNat i.toNat, ?_, ⟨rfl, fun u hu => by simp at hu; subst hu; rfl⟩, fun _ _ => trivial⟩
    unfold bv
    have e : ((UInt8.ofNat i.toNat).toNat : Int) = i := by rw [UInt8.toNat_ofNat']; omega
    rw [e]) hf
  have hr := rd_of_rws (rws_hmap (fun z => [bv z]) h3 h2 h4)
  obtain ⟨a, c, rfl⟩ := zrd_form hr
  exact ⟨a, c, l, h1, hr, fun K hK => (h7 K hK).2⟩
theorem owner_in {m : Nat} {cs : List Value} {y : DataW H × List MemPlace} (h : DataW.trod enc Try.prog W 0 (fun _ => true) true m 140 cs = some y) :
    ∃ o : Ow, OwN W cs o ∧ (cs.length = 2 ∧ ∀ u ∈ cs, u.oneCell' = true) ∧ ∀ K, (∀ k ∈ y.1.weights Try.prog 140, k ≤ K) → o.f.length ≤ K := by
  have hcv : Try.prog.cellsOf 140 = 2 := by kernel_rfl
  obtain ⟨xs, n', rfl, rfl, hlen, hxl, hfd⟩ := DataW.trod_struct Try.underlying140 h
  rw [hcv] at hlen
  match cs, hlen, xs, hxl with
  | [c0, c1], _, [y0, y1], _ =>
    have t0 := part (k := 1) (t := 3) (cs' := [c0]) (by kernel_rfl) (hfd 0 _ rfl) rfl
    have t1 := part (k := 1) (t := 62) (cs' := [c1]) (by kernel_rfl) (hfd 1 _ rfl) rfl
    obtain ⟨i0, e0, f0, g0⟩ := DataW.trod_int Try.underlying3 t0
    obtain ⟨a, c, l, e1, r1, k1⟩ := bytes_in t1
    cases e0; cases e1
    refine ⟨⟨i0, l⟩, ⟨a, c, rfl, r1⟩, ⟨rfl, fun u hu => by simp only [List.mem_cons, List.not_mem_nil, or_false] at hu; rcases hu with rfl | rfl <;> rfl⟩, fun K hK => ?_⟩
    exact k1 K (fun k9 h9 => hK _ (by simp only [DataW.weights, Try.underlying140]; exact DataW.weights_mem_each (j := 1) rfl rfl _ h9))
theorem owners_in {f : Nat} {cs : List Value} {y : DataW H × List MemPlace} (hf : DataW.trod enc Try.prog W 0 (fun _ => true) true f 61 cs = some y) :
    ∃ (ao : Option Addr) (c : Nat) (l : List Ow), cs = [.slice ao l.length c] ∧ OwsN W (.slice ao l.length c) l ∧ ∀ K, (∀ k ∈ y.1.weights Try.prog 61, k ≤ K) → (∀ o ∈ l, o.f.length ≤ K) ∧ l.length ≤ K := by
  letI : Inhabited Ow := ⟨⟨0, []⟩⟩
  obtain ⟨x, M, l, h1, h2, h3, h4, h5, h6, h7⟩ := list_in (enc := enc) (W := W) (fun r (o : Ow) => OwN W r o) (fun o K => o.f.length ≤ K) 2 61 140 Try.underlying61 (by kernel_rfl) (by decide) (by decide +kernel) (fun m cs y h => owner_in h) hf
  obtain ⟨ao, c, rfl, -⟩ := h3.form
  rw [h2] at h1 h3
  exact ⟨ao, c, l, h1, ⟨M, h2, h3, h4⟩, h7⟩
/-- What a routes' parameter is. -/
def RouO (W : World) (v : Value) (R : Rou) : Prop :=
  ∃ ao c b d, v = .agg #[.int .i64 R.ep, .int .i64 R.base, .slice ao R.sp.length c, .int .i64 R.mv, .slice b R.cut.length d] ∧ OwsN W (.slice ao R.sp.length c) R.sp ∧ Rd W (.slice b R.cut.length d) R.cut ∧ i64 R.ep ∧ i64 R.base ∧ i64 R.mv ∧ (∀ o ∈ R.sp, o.f.length ≤ 140737488355328) ∧ R.sp.length ≤ 140737488355328 ∧ R.cut.length ≤ 140737488355328
theorem routes_open {base : Nat} {v : Value} {d : DataW H} {p : List MemPlace} (hw : Value.okWide Try.prog W .any base 64 v) (h : DataW.Trod enc Try.prog W 0 (fun _ => true) true 64 v d p) (hk : ∀ k ∈ d.weights Try.prog 64, k ≤ reachBytes) :
    ∃ R : Rou, RouO W v R := by
  unfold Value.okWide at hw
  rw [Try.underlying64] at hw
  obtain ⟨cs, rfl, hsz, -⟩ := hw
  obtain ⟨fuel, hf⟩ := h
  have hf1 : DataW.trod enc Try.prog W 0 (fun _ => true) true fuel 64 cs.toList = some (d, p) := hf
  have hcv : Try.prog.cellsOf 64 = 5 := by kernel_rfl
  obtain ⟨xs, n', rfl, he, hlen, hxl, hfd⟩ := DataW.trod_struct Try.underlying64 hf1
  rw [hcv] at hlen
  obtain ⟨l, hl⟩ : ∃ l, cs.toList = l := ⟨_, rfl⟩
  have hcs : cs = l.toArray := by rw [← hl]
  rw [hl] at hlen hfd
  subst hcs
  have hK : reachBytes ≤ 140737488355328 := by decide
  match l, hlen, xs, hxl with
  | [c0, c1, c2, c3, c4], _, [y0, y1, y2, y3, y4], _ =>
    have he1 : d = _ := congrArg Prod.fst he
    have t0 := part (k := 1) (t := 3) (cs' := [c0]) (by kernel_rfl) (hfd 0 _ rfl) rfl
    have t1 := part (k := 1) (t := 3) (cs' := [c1]) (by kernel_rfl) (hfd 1 _ rfl) rfl
    have t2 := part (k := 1) (t := 61) (cs' := [c2]) (by kernel_rfl) (hfd 2 _ rfl) rfl
    have t3 := part (k := 1) (t := 3) (cs' := [c3]) (by kernel_rfl) (hfd 3 _ rfl) rfl
    have t4 := part (k := 1) (t := 62) (cs' := [c4]) (by kernel_rfl) (hfd 4 _ rfl) rfl
    obtain ⟨i0, e0, f0, g0⟩ := DataW.trod_int Try.underlying3 t0
    obtain ⟨i1, e1, f1, g1⟩ := DataW.trod_int Try.underlying3 t1
    obtain ⟨ao, c, L, e2, r2, k2⟩ := owners_in t2
    obtain ⟨i3, e3, f3, g3⟩ := DataW.trod_int Try.underlying3 t3
    obtain ⟨b, d4, cut, e4, r4, k4⟩ := bytes_in t4
    cases e0; cases e1; cases e2; cases e3; cases e4
    rw [he1] at hk
    have w2 := k2 reachBytes (fun k9 h9 => hk _ (by simp only [DataW.weights, Try.underlying64]; exact DataW.weights_mem_each (j := 2) rfl rfl _ h9))
    have w4 := k4 reachBytes (fun k9 h9 => hk _ (by simp only [DataW.weights, Try.underlying64]; exact DataW.weights_mem_each (j := 4) rfl rfl _ h9))
    exact ⟨⟨i0, i1, L, i3, cut⟩, ao, c, b, d4, rfl, r2, r4, i64_in g0, i64_in g1, i64_in g3, fun o ho => Nat.le_trans (w2.1 o ho) hK, Nat.le_trans w2.2 hK, Nat.le_trans w4 hK⟩
theorem hbytes_open {base : Nat} {v : Value} {d : DataW H} {p : List MemPlace} (hw : Value.okWide Try.prog W .any base 62 v) (h : DataW.Trod enc Try.prog W 0 (fun _ => true) true 62 v d p) (hk : ∀ k ∈ d.weights Try.prog 62, k ≤ reachBytes) :
    ∃ (a : Option Addr) (c : Nat) (l : List UInt8), v = .slice a l.length c ∧ Rd W (.slice a l.length c) l ∧ l.length ≤ 140737488355328 := by
  unfold Value.okWide at hw
  rw [Try.underlying62] at hw
  obtain ⟨a0, n0, c0, rfl⟩ : ∃ a0 n0 c0, v = .slice a0 n0 c0 := by
    cases v <;> first | exact ⟨_, _, _, rfl⟩ | (exfalso; revert hw; simp [Cell.okWide, Cell.ok, Try.underlying62])
  obtain ⟨fuel, hf⟩ := h
  have hf1 : DataW.trod enc Try.prog W 0 (fun _ => true) true fuel 62 [.slice a0 n0 c0] = some (d, p) := hf
  obtain ⟨a, c, l, e, hr, hb⟩ := bytes_in hf1
  cases e
  exact ⟨_, _, l, rfl, hr, Nat.le_trans (hb reachBytes hk) (by decide)⟩
theorem hspan_open {base : Nat} {v : Value} {d : DataW H} {p : List MemPlace} (hw : Value.okWide Try.prog W .any base 66 v) (h : DataW.Trod enc Try.prog W 0 (fun _ => true) true 66 v d p) (hk : ∀ k ∈ d.weights Try.prog 66, k ≤ reachBytes) :
    ∃ (a1 : Option Addr) (c1 : Nat) (F : List UInt8) (a2 : Option Addr) (c2 : Nat) (T : List UInt8), v = .agg #[.slice a1 F.length c1, .slice a2 T.length c2] ∧ Rd W (.slice a1 F.length c1) F ∧ Rd W (.slice a2 T.length c2) T ∧ F.length ≤ 140737488355328 ∧ T.length ≤ 140737488355328 := by
  unfold Value.okWide at hw
  rw [Try.underlying66] at hw
  obtain ⟨cs, rfl, hsz, -⟩ := hw
  obtain ⟨fuel, hf⟩ := h
  have hf1 : DataW.trod enc Try.prog W 0 (fun _ => true) true fuel 66 cs.toList = some (d, p) := hf
  have hcv : Try.prog.cellsOf 66 = 2 := by kernel_rfl
  obtain ⟨xs, n', rfl, he, hlen, hxl, hfd⟩ := DataW.trod_struct Try.underlying66 hf1
  rw [hcv] at hlen
  obtain ⟨l, hl⟩ : ∃ l, cs.toList = l := ⟨_, rfl⟩
  have hcs : cs = l.toArray := by rw [← hl]
  rw [hl] at hlen hfd
  subst hcs
  have hK : reachBytes ≤ 140737488355328 := by decide
  match l, hlen, xs, hxl with
  | [c0, c1], _, [y0, y1], _ =>
    have he1 : d = _ := congrArg Prod.fst he
    have t0 := part (k := 1) (t := 62) (cs' := [c0]) (by kernel_rfl) (hfd 0 _ rfl) rfl
    have t1 := part (k := 1) (t := 62) (cs' := [c1]) (by kernel_rfl) (hfd 1 _ rfl) rfl
    obtain ⟨a1, b1, F, e0, r0, k0⟩ := bytes_in t0
    obtain ⟨a2, b2, T, e1, r1, k1⟩ := bytes_in t1
    cases e0; cases e1
    rw [he1] at hk
    have w0 := k0 reachBytes (fun k9 h9 => hk _ (by simp only [DataW.weights, Try.underlying66]; exact DataW.weights_mem_each (j := 0) rfl rfl _ h9))
    have w1 := k1 reachBytes (fun k9 h9 => hk _ (by simp only [DataW.weights, Try.underlying66]; exact DataW.weights_mem_each (j := 1) rfl rfl _ h9))
    exact ⟨a1, b1, F, a2, b2, T, rfl, r0, r1, Nat.le_trans w0 hK, Nat.le_trans w1 hK⟩
end
end Go.Proofs.Ytafcbelkhhjcoaa

set_option linter.unusedVariables false
set_option linter.unusedSimpArgs false
set_option maxRecDepth 100000
namespace Go.Proofs.Ytafcbelkhhjcoaa
open Go.RowKit Go.Deep

theorem all_ex {R : Rou} (h : RtOk R) (z : Int) : ∃ F2 T2, AllA R z F2 T2 := by
  cases hb : isB R z with
  | true =>
    refine ⟨[114], [115], .inl ⟨hb, rfl, rfl, h.noplace ?_⟩⟩
    unfold isB at hb
    simp only [Bool.and_eq_true, decide_eq_true_eq] at hb
    exact hb.2.2
  | false =>
    rcases plc_cases R.sp z with hq | ⟨k, o, hq, ho⟩
    · exact ⟨[], [], .inr (.inl ⟨hb, hq, rfl, rfl⟩)⟩
    · exact ⟨o.f, toL R.sp k, .inr (.inr ⟨k, o, hb, hq, ho, rfl, rfl⟩)⟩
theorem owned_two {w : World} {R : Rou} {ao b : Option Addr} {c d : Nat} (h : RtOk R) (hr : OwsN w (.slice ao R.sp.length c) R.sp) (z : Int) :
    ∃ F T, (∀ V, Below w.heap.size w V → Calls Try.prog 58 #[.agg #[.int .i64 R.ep, .int .i64 R.base, .slice ao R.sp.length c, .int .i64 R.mv, .slice b R.cut.length d], .int .i64 z] V (SpA V F T)) ∧
      (∀ V, Below w.heap.size w V → Calls Try.prog 59 #[.agg #[.int .i64 R.ep, .int .i64 R.base, .slice ao R.sp.length c, .int .i64 R.mv, .slice b R.cut.length d], .int .i64 z] V (SpA V F T)) := by
  rcases plc_cases R.sp z with hq | ⟨k, o, hq, ho⟩
  · exact ⟨[], [], fun V hV => owned_none (hr.old hV) hq, fun V hV => rowned_none (hr.old hV) hq⟩
  · exact ⟨o.f, toL R.sp k, fun V hV => owned_some (hr.old hV) h.lens hq ho, fun V hV => rowned_some (hr.old hV) (fun u hu => by have := h.lens u hu; omega) hq ho⟩
def NwA (B E : Int) (L : List Ow) (w : World) (e : Ending) (w' : World) : Prop :=
  ∃ ao c, e = .returned (.tuple #[.agg #[.int .i64 0, .int .i64 B, .slice ao L.length c, .int .i64 0, .slice none 0 0], .int .i64 E]) ∧ OwsN w' (.slice ao L.length c) L ∧ Below w.heap.size w w'
theorem ows_none (w : World) : OwsN w (.slice none 0 0) [] := ⟨[], rfl, Rws.nil 2 w, fun i r o hr _ => by simp at hr⟩
theorem new_two (bs sp : Int) : ∃ B E L, (∀ V, Calls Try.prog 41 #[.int .i64 bs, .int .i64 sp] V (NwA B E L V)) ∧ (∀ V, Calls Try.prog 42 #[.int .i64 bs, .int .i64 sp] V (NwA B E L V)) := by
  by_cases h : bfB bs = true ∧ 1 ≤ sp ∧ sp ≤ 4
  · refine ⟨bs, 0, [⟨bs + 1, [120]⟩], fun V => (new_ok V bs sp h.1 h.2.1 h.2.2).mono ?_, fun V => (rnew_ok V bs sp h.1 h.2.1 h.2.2).mono ?_⟩
    · rintro e w' ⟨ao, c, rfl, h1, h2⟩; exact ⟨ao, c, rfl, h1, h2⟩
    · rintro e w' ⟨ao, c, rfl, h1, h2⟩; exact ⟨ao, c, rfl, h1, h2⟩
  · refine ⟨0, 1, [], fun V => (new_no V bs sp h).mono ?_, fun V => (rnew_no V bs sp h).mono ?_⟩
    · rintro e w' ⟨rfl, h2⟩; exact ⟨none, 0, rfl, ows_none _, h2⟩
    · rintro e w' ⟨rfl, h2⟩; exact ⟨none, 0, rfl, ows_none _, h2⟩
/-- The two Parts. -/
theorem part_two {w : World} {R : Rou} {ao b : Option Addr} {c d : Nat} (h : RtOk R) (hr : OwsN w (.slice ao R.sp.length c) R.sp) {a1 a2 : Option Addr} {c1 c2 : Nat} {F1 T1 : List UInt8} (h1 : Rd w (.slice a1 F1.length c1) F1) (h2 : Rd w (.slice a2 T1.length c2) T1)
    (hl1 : F1.length ≤ 140737488355328) (hl2 : T1.length ≤ 140737488355328) (z : Int) :
    ∃ F T q, (∀ V, Below w.heap.size w V → Calls Try.prog 46 #[.agg #[.int .i64 R.ep, .int .i64 R.base, .slice ao R.sp.length c, .int .i64 R.mv, .slice b R.cut.length d], .int .i64 z, .agg #[.slice a1 F1.length c1, .slice a2 T1.length c2]] V (PtA V F T q)) ∧
      (∀ V, Below w.heap.size w V → Calls Try.prog 47 #[.agg #[.int .i64 R.ep, .int .i64 R.base, .slice ao R.sp.length c, .int .i64 R.mv, .slice b R.cut.length d], .int .i64 z, .agg #[.slice a1 F1.length c1, .slice a2 T1.length c2]] V (PtA V F T q)) := by
  obtain ⟨F2, T2, hA⟩ := all_ex h z
  exact ⟨_, _, _, fun V hV => part_any h.bf (hr.old hV) h.lens (h1.old hV) (h2.old hV) hl1 hl2 hA, fun V hV => rpart_any h.bf (hr.old hV) h.lens (h1.old hV) (h2.old hV) hl1 hl2 hA⟩
end Go.Proofs.Ytafcbelkhhjcoaa

