import GoSem.Op.String
import Derived.Lib.Bytealg
import Derived.Test.YtafcbelkhhjcoaaRows
import Derived.WalkKit
import Derived.WalkSpells
import Derived.WalkLawsBesides
import Derived.Laws.AppendOwnNone
import Derived.Deep.Slices
import Derived.BigQuiet
import Derived.Deep.QuietTactic
import Derived.Deep.AppendLies
import Derived.Deep.RegionWith
import Derived.Shelf.Abstract
import Derived.Test.YtafcbelkhhjcoaaProg
import Derived.LaidEql
import Derived.Stop.Asserts
import Derived.RowKitTokens
import Derived.Lib.Bytes
import Derived.Deep.OwnRows
import Derived.OwnWalk
import Derived.ProofKit
import Derived.Lib.AppendZeros
import Derived.Deep.CutRange
import Derived.Deep.RegionHeld3
import Derived.OpenShut
import Derived.ShutString
import Derived.ChangeOld
import Derived.Below
import Derived.SizedLaws
import Derived.Deep.Strs
import Derived.Deep.RegionHeld
import Derived.Deep.RegionLaw
import Derived.Laws.OwnMore
import Derived.Laws.ResultCell
import Derived.BigRegion
import Derived.Laws.CopyOwn
import Derived.Lib.AppendZerosOnto
import Derived.Lib.Overlaps
import Derived.Deep.AppendSrc
import Derived.Deep.CutBlock
import Derived.Lib.SlBytesConst
import Derived.RangeFuncNested
import Derived.RangeFuncBound
import Derived.RangeFuncCalls
import Derived.RangeFuncLeaves
import Derived.Shelf.RegionOpen
import Derived.OwnWalkIn
import Derived.TacticsInMore
import Derived.LoopNIn
import Derived.LoopIn
import Derived.Laws.CopyRow
import Derived.Deep.MidRow
import Derived.Laws.MakeOwn
import Derived.IntWalk
import Derived.Test.YtafcbelkhhjcoaaHT1
import Derived.Test.YtafcbelkhhjcoaaHT2
import Derived.Test.YtafcbelkhhjcoaaHT3
set_option linter.unusedVariables false
set_option linter.unusedSimpArgs false
set_option linter.unusedVariables false
set_option linter.unusedSimpArgs false
set_option maxRecDepth 100000
namespace Go.Proofs.Ytafcbelkhhjcoaa
open Go.RowKit Go.Deep

/-- Where the keys behind a place begin. -/
def atL (L : List Ow) (k : Nat) : List UInt8 := match L[k]? with
  | some o => o.f
  | none => [121]
theorem toL_eq (L : List Ow) (k : Nat) : toL L k = atL L (k + 1) := rfl
theorem atL_lt {L : List Ow} {k : Nat} {o : Ow} (h : L[k]? = some o) : atL L k = o.f := by unfold atL; rw [h]
theorem atL_ge {L : List Ow} {k : Nat} (h : L.length ≤ k) : atL L k = [121] := by unfold atL; rw [List.getElem?_eq_none h]

structure RtOk (R : Rou) : Prop where
  ep : 0 ≤ R.ep
  bf : bfB R.base = true
  len1 : 1 ≤ R.sp.length
  len4 : R.sp.length ≤ 4
  first : atL R.sp 0 = [120]
  grp : ∀ (k : Nat) o, R.sp[k]? = some o → R.base < o.g ∧ o.g ≤ R.base + 4 ∧ plcI R.sp o.g = (k : Int)
  beg : ∀ (k : Nat) o, R.sp[k]? = some o → begB o.f 120 = true ∧ o.f.length ≤ 600 ∧ 1 ≤ o.f.length
  rise : ∀ (k : Nat) o, R.sp[k]? = some o → Op.bytesLess o.f (atL R.sp (k + 1)) = true

theorem allOk_at {R : Rou} : ∀ (n : Nat), allOk R n = true → ∀ (k : Nat) o, k < n → R.sp[k]? = some o → okOw R k o = true
  | 0, _, k, o, hk, _ => by omega
  | n + 1, h, k, o, hk, ho => by
    have h2 : (allOk R n && (match R.sp[n]? with | some o => okOw R n o | none => true)) = true := h
    rw [Bool.and_eq_true] at h2
    rcases Nat.lt_or_ge k n with hlt | hge
    · exact allOk_at n h2.1 k o hlt ho
    · obtain rfl : k = n := by omega
      have h3 := h2.2
      rw [ho] at h3
      exact h3
theorem beg_less {l : List UInt8} (h : begB l 120 = true) : Op.bytesLess l [121] = true := by
  cases l with
  | nil => cases h
  | cons q l =>
    have hq : ((q.toNat : Int) == 120) = true := h
    have hq2 : q.toNat = 120 := by have h9 : (q.toNat : Int) = 120 := by simpa using hq
                                   omega
    have hq3 : q = 120 := UInt8.toNat_inj.1 (by rw [hq2]; rfl)
    subst hq3
    rw [lt_less]
    exact cb_lt (by decide) l []
theorem right_ok {R : Rou} (h : rightB R = true) : RtOk R := by
  unfold rightB at h
  simp only [Bool.and_eq_true, Bool.not_eq_true', decide_eq_false_iff_not, Int.not_lt, gt_iff_lt, Nat.not_lt] at h
  obtain ⟨h1, h2, h3, h4, h5, h6, h7, h8⟩ := h
  obtain ⟨o0, ho0⟩ : ∃ o0, R.sp[0]? = some o0 := ⟨_, List.getElem?_eq_getElem (by omega)⟩
  rw [ho0] at h6
  have h60 : o0.f = [120] := by simpa using h6
  have hok : ∀ (k : Nat) o, R.sp[k]? = some o → okOw R k o = true := fun k o hk => allOk_at _ h7 k o (List.getElem?_eq_some_iff.1 hk).1 hk
  have hun : ∀ (k : Nat) o, R.sp[k]? = some o → R.base < o.g ∧ o.g ≤ R.base + 4 ∧ plcI R.sp o.g = (k : Int) ∧ 1 ≤ o.f.length ∧ begB o.f 120 = true ∧ o.f.length ≤ 600 ∧ prevB R.sp k o.f = true := fun k o hk => by
    have h := hok k o hk
    unfold okOw at h
    simp only [Bool.and_eq_true, Bool.not_eq_true', decide_eq_false_iff_not, Int.not_lt, gt_iff_lt, Nat.not_lt, Int.not_le, decide_eq_true_eq] at h
    exact ⟨by omega, by omega, h.2.2.1, by omega, h.2.2.2.2.1, by omega, h.2.2.2.2.2.2⟩
  refine ⟨h1, by unfold bfB; simp; omega, h4, h5, by rw [atL_lt ho0, h60], fun k o hk => ⟨(hun k o hk).1, (hun k o hk).2.1, (hun k o hk).2.2.1⟩, fun k o hk => ⟨(hun k o hk).2.2.2.2.1, (hun k o hk).2.2.2.2.2.1, (hun k o hk).2.2.2.1⟩, fun k o hk => ?_⟩
  rcases Nat.lt_or_ge (k + 1) R.sp.length with hlt | hge
  · obtain ⟨o2, ho2⟩ : ∃ o2, R.sp[k + 1]? = some o2 := ⟨_, List.getElem?_eq_getElem hlt⟩
    rw [atL_lt ho2]
    have h9 := (hun (k + 1) o2 ho2).2.2.2.2.2.2
    have h10 : (match R.sp[k]? with | some p => Op.bytesLess p.f o2.f | none => true) = true := h9
    rw [hk] at h10
    exact h10
  · rw [atL_ge hge]
    exact beg_less (hun k o hk).2.2.2.2.1
theorem RtOk.lens {R : Rou} (h : RtOk R) : ∀ o ∈ R.sp, o.f.length ≤ 1000 := fun o ho => by
  obtain ⟨k, hk⟩ := List.getElem?_of_mem ho
  have := (h.beg k o hk).2.1
  omega
theorem RtOk.noplace {R : Rou} (h : RtOk R) {z : Int} (hz : z ≤ R.base) : plcI R.sp z = -1 := by
  refine fidx_no ?_
  rw [List.any_eq_false]
  intro o ho hq
  obtain ⟨k, hk⟩ := List.getElem?_of_mem ho
  have := (h.grp k o hk).1
  have h2 : o.g = z := by simpa using hq
  omega
end Go.Proofs.Ytafcbelkhhjcoaa

set_option linter.unusedVariables false
set_option linter.unusedSimpArgs false
set_option maxRecDepth 100000
namespace Go.Proofs.Ytafcbelkhhjcoaa
open Go.RowKit Go.Deep

theorem RtOk.base {R : Rou} (h : RtOk R) : 1 ≤ R.base ∧ R.base ≤ 4 := by have := h.bf; unfold bfB at this; simpa using this
theorem less_trans {a b c : List UInt8} (h : Op.bytesLess a b = true) (k : Op.bytesLess b c = true) : Op.bytesLess a c = true := lt_less.2 (lt_trans (lt_less.1 h) (lt_less.1 k))
theorem less_asymm {a b : List UInt8} (h : Op.bytesLess a b = true) : Op.bytesLess b a = false := less_lt.2 (lt_asymm (lt_less.1 h))
theorem not_less_trans {a b c : List UInt8} (h : Op.bytesLess a b = false) (k : Op.bytesLess a c = true) : Op.bytesLess b c = true := lt_less.2 (lt_of_not' (less_lt.1 h) (lt_less.1 k))
end Go.Proofs.Ytafcbelkhhjcoaa

set_option linter.unusedVariables false
set_option linter.unusedSimpArgs false
set_option maxRecDepth 100000
namespace Go.Proofs.Ytafcbelkhhjcoaa
open Go.RowKit Go.Deep

theorem less_irr (a : List UInt8) : Op.bytesLess a a = false := less_lt.2 (lt_irrefl a)
theorem less_tot {a b : List UInt8} (h : Op.bytesLess a b = false) (k : Op.bytesLess b a = false) : a = b := lt_eq (less_lt.1 h) (less_lt.1 k)
theorem lt_le {a b c : List UInt8} (h : Op.bytesLess a b = true) (k : Op.bytesLess c b = false) : Op.bytesLess a c = true := by
  cases h2 : Op.bytesLess a c with
  | true => rfl
  | false =>
    have h3 := not_less_trans h2 h
    rw [h3] at k; cases k
theorem ne_of_less {a b : List UInt8} (h : Op.bytesLess a b = true) : b ≠ [] := fun e => by
  subst e
  cases a <;> cases h

end Go.Proofs.Ytafcbelkhhjcoaa

set_option linter.unusedVariables false
set_option linter.unusedSimpArgs false
set_option maxRecDepth 100000
namespace Go.Proofs.Ytafcbelkhhjcoaa
open Go.RowKit Go.Deep
set_option maxHeartbeats 4000000 in
theorem rbase_any {w : World} {R : Rou} {ao b : Option Addr} {c d : Nat} {x : Value} {l : List UInt8} (hbf : bfB R.base = true) (hx : Rd w x l) : Calls Try.prog 50 #[.agg #[.int .i64 R.ep, .int .i64 R.base, .slice ao R.sp.length c, .int .i64 R.mv, .slice b R.cut.length d], x] w (AnsP w (.int .i64 (baseI R.base l))) := by
  have HX := hid hx
  have hlx := hx.len (P := Try.prog) 62 5 3 Try.underlying62
  have hl9 : l.length ≤ 9223372036854775807 := by obtain ⟨_, _, _, h1, h2, _⟩ := hx; unfold maxLen at h2; omega
  obtain ⟨a9, c9, rfl⟩ := zrd_form hx
  have hb1 : 1 ≤ R.base ∧ R.base ≤ 4 := by unfold bfB at hbf; simpa using hbf
  have HB1 := hid hb1
  clear hx hbf hb1
  go_enter Try.func50, Try.ntmps50
  go_upto_region 1 with fail
  have hb := (Below.refl w.heap.size w).alloc (Nat.le_refl _) (.cells #[.int .i64 R.ep, .int .i64 R.base, .slice ao R.sp.length c, .int .i64 R.mv, .slice b R.cut.length d] 64)
  have hz := heap_alloc_new w (.cells #[.int .i64 R.ep, .int .i64 R.base, .slice ao R.sp.length c, .int .i64 R.mv, .slice b R.cut.length d] 64)
  have hs : (w.alloc (.cells #[.int .i64 R.ep, .int .i64 R.base, .slice ao R.sp.length c, .int .i64 R.mv, .slice b R.cut.length d] 64)).heap.size = w.heap.size + 1 := by simp
  generalize w.alloc (.cells #[.int .i64 R.ep, .int .i64 R.base, .slice ao R.sp.length c, .int .i64 R.mv, .slice b R.cut.length d] 64) = w1 at *
  have z1 := cell_in hz 1 _ rfl
  have HB := hid hb
  clear hb hz hs
  go_wp2_with fail
  go_loopw [6, 5] (fun j h wr => ∃ k : Nat, k ≤ l.length ∧ j = .int .i64 (k : Int) ∧ h = .int .u32 (hashI (l.take k)) ∧ wr = w1)
    (fun j _ _ => l.length - (intOf j).toNat)
  case atStart => exact ⟨0, by omega, rfl, rfl, rfl⟩
  case round =>
    obtain ⟨k, hk, rfl, rfl, rfl⟩ := hrel
    by_cases hlt : k < l.length
    · obtain ⟨q, hq⟩ : ∃ q, l[k]? = some q := ⟨_, List.getElem?_eq_getElem hlt⟩
      have HST := hid (hash_take hq)
      obtain ⟨b1, of1, c1, e1, -, -, h4⟩ := (HX.out.old HB.out).at (by omega)
      cases e1
      have h5 := h4 k hlt
      rw [(List.getElem?_eq_some_iff.1 hq).2] at h5
      have hki : (k : Int) < (l.length : Int) := by omega
      generalize hashI (l.take k) = hv at *
      clear h4
      go_wp2_with fail
      go_roundw
      · exact ⟨k + 1, by omega, by go_num, by rw [HST.out]; unfold hstep; simp [Int.mul_comm], trivial⟩
      · simp [intOf]; omega
    · obtain rfl : k = l.length := by omega
      rw [List.take_length]
      have hki : ¬ (l.length : Int) < (l.length : Int) := by omega
      have HH := hid (hash_in l)
      have hbm : R.base % 4294967296 = R.base := by have := HB1.out; omega
      have hbn : ¬ R.base = 0 := by have := HB1.out; omega
      have HE : Hid (baseI R.base l = hashI l % R.base + 1) := hid rfl
      generalize hashI l = hv at *
      go_wp2_with fail
      have ht : hv.tmod R.base = hv % R.base := Int.tmod_eq_emod_of_nonneg HH.out.1
      have hm0 : 0 ≤ hv % R.base := Int.emod_nonneg _ hbn
      have hm1 : hv % R.base < R.base := Int.emod_lt_of_pos _ (by have := HB1.out; omega)
      rw [ht]
      have hw1 : wrap64 (hv % R.base) = hv % R.base := wrap64_in (by omega) (by have := HB1.out; omega)
      have hw2 : wrap64 (hv % R.base + 1) = hv % R.base + 1 := wrap64_in (by omega) (by have := HB1.out; omega)
      rw [hw1, hw2]
      go_ret
      exact ⟨by rw [HE.out]; rfl, HB.out⟩
set_option maxHeartbeats 4000000 in
theorem rentry_any {w : World} {R : Rou} {ao b : Option Addr} {c d : Nat} {x : Value} {l : List UInt8} (hr : OwsN w (.slice ao R.sp.length c) R.sp) (h1 : 1 ≤ R.sp.length) (hx : Rd w x l) : Calls Try.prog 52 #[.agg #[.int .i64 R.ep, .int .i64 R.base, .slice ao R.sp.length c, .int .i64 R.mv, .slice b R.cut.length d], x] w (AnsP w (.int .i64 (entG R.sp l))) := by
  have hlm := ows_form hr
  obtain ⟨ao', c', e, -, hm, hc⟩ := ows_cells hr
  cases e
  have HC := hid hc
  have HX := hid hx
  obtain ⟨a9, c9, rfl⟩ := zrd_form hx
  obtain ⟨o0, ho0⟩ : ∃ o0, R.sp[0]? = some o0 := ⟨_, List.getElem?_eq_getElem (by omega)⟩
  obtain ⟨b1, of1, x0, d0, rfl, e0, -, -⟩ := hc 0 o0 ho0
  simp only [Nat.zero_mul, Nat.add_zero] at e0
  have h1i : (0 : Int) < (R.sp.length : Int) := by omega
  have HO0 := hid ho0
  clear hx hr hm hc ho0
  go_enter Try.func52, Try.ntmps52
  go_upto_region 1 with fail
  have hb := (Below.refl w.heap.size w).alloc (Nat.le_refl _) (.cells #[.int .i64 R.ep, .int .i64 R.base, .slice (some ⟨b1, of1, none⟩) R.sp.length c, .int .i64 R.mv, .slice b R.cut.length d] 64)
  have hz := heap_alloc_new w (.cells #[.int .i64 R.ep, .int .i64 R.base, .slice (some ⟨b1, of1, none⟩) R.sp.length c, .int .i64 R.mv, .slice b R.cut.length d] 64)
  have hs : (w.alloc (.cells #[.int .i64 R.ep, .int .i64 R.base, .slice (some ⟨b1, of1, none⟩) R.sp.length c, .int .i64 R.mv, .slice b R.cut.length d] 64)).heap.size = w.heap.size + 1 := by simp
  generalize w.alloc (.cells #[.int .i64 R.ep, .int .i64 R.base, .slice (some ⟨b1, of1, none⟩) R.sp.length c, .int .i64 R.mv, .slice b R.cut.length d] 64) = w1 at *
  have z2 := cell_in hz 2 _ rfl
  have k00 := (hb.cell (block_cell e0)).trans e0
  have HB := hid hb
  clear hb hz hs e0
  go_wp2_with fail
  clear k00
  go_loopw [6, 5] (fun j h wr => ∃ k n : Nat, k ≤ R.sp.length ∧ j = .int .i64 (k : Int) ∧ h = .int .i64 (if k = 0 then o0.g else entG (R.sp.take k) l) ∧ wr = w1.drewN n)
    (fun j _ _ => R.sp.length - (intOf j).toNat)
  case atStart => exact ⟨0, 0, by omega, rfl, rfl, rfl⟩
  case round =>
    obtain ⟨k, n, hk, rfl, rfl, rfl⟩ := hrel
    by_cases hlt : k < R.sp.length
    · obtain ⟨u, hu⟩ : ∃ u, R.sp[k]? = some u := ⟨_, List.getElem?_eq_getElem hlt⟩
      have hst := entG_take (key := l) hu
      obtain ⟨b9, of9, x1, d1, e9, c0, c1, cr⟩ := HC.out k u hu
      cases e9
      have hki : (k : Int) < (R.sp.length : Int) := by omega
      have k0 := (HB.out.cell (block_cell c0)).trans c0
      have k1 := (HB.out.cell (block_cell c1)).trans c1
      have v1 := fun n => (show Rd (w1.drewN n) _ _ from (cr.old HB.out).old (below_drewN w1 n)).conv (P := Try.prog) 62 9 5 Try.underlying62 Try.underlying5 Try.underlying9
      have v2 := fun n => (show Rd (w1.drewN n) _ _ from (HX.out.old HB.out).old (below_drewN w1 n)).conv (P := Try.prog) 62 9 5 Try.underlying62 Try.underlying5 Try.underlying9
      have hg0 : k = 0 → u.g = o0.g := fun h => by subst h; rw [HO0.out] at hu; cases hu; rfl
      have hst2 : entG (R.sp.take (k + 1)) l = if Op.bytesLess l u.f = false then u.g else (if k = 0 then o0.g else entG (R.sp.take k) l) := by
        rw [hst]
        by_cases hk0 : k = 0
        · rw [if_pos (.inl hk0), if_pos hk0, hg0 hk0]; split <;> rfl
        · rw [if_neg hk0]; simp [hk0]
      have HST := hid hst2
      clear c0 c1 cr hu hst hg0 hst2
      generalize (if k = 0 then o0.g else entG (R.sp.take k) l) = gv at *
      cases q1 : Op.bytesLess u.f l with
      | true =>
        have hst3 := HST.out
        rw [if_pos (less_asymm q1)] at hst3
        have HS3 := hid hst3
        clear hst3
        go_wp2_with fail
        go_quiet (fail)
        rename_i nq
        go_wp2_with fail
        go_roundw
        · exact ⟨k + 1, n + nq, by omega, by go_num, by rw [if_neg (by omega), HS3.out], by first | rfl | rw [World.drewN_drewN]⟩
        · simp [intOf]; omega
      | false =>
        by_cases q2 : u.f = l
        · have hst3 := HST.out
          rw [if_pos (by rw [q2]; exact less_irr l)] at hst3
          have HS3 := hid hst3
          have q3 : (u.f == l) = true := by simpa using q2
          have HQ2 := hid q2
          clear hst3 q2
          go_wp2_with fail
          go_quiet (fail)
          rename_i nq
          go_wp2_with fail
          go_roundw
          · exact ⟨k + 1, n + nq, by omega, by go_num, by rw [if_neg (by omega), HS3.out], by first | rfl | rw [World.drewN_drewN]⟩
          · simp [intOf]; omega
        · have q3 : (u.f == l) = false := by simpa using q2
          have hlu : Op.bytesLess l u.f = true := by
            cases h : Op.bytesLess l u.f with
            | true => rfl
            | false => exact absurd (less_tot q1 h) q2
          have hst3 := HST.out
          rw [if_neg (by rw [hlu]; simp)] at hst3
          have HS3 := hid hst3
          clear hst3 hlu
          go_wp2_with fail
          go_quiet (fail)
          rename_i nq
          go_wp2_with fail
          go_roundw
          · exact ⟨k + 1, n + nq, by omega, by go_num, by rw [if_neg (by omega), HS3.out], by first | rfl | rw [World.drewN_drewN]⟩
          · simp [intOf]; omega
    · obtain rfl : k = R.sp.length := by omega
      rw [List.take_length, if_neg (by omega)]
      have hb9 : Below w.heap.size w (w1.drewN n) := HB.out.trans ((below_drewN w1 n).mono HB.out.size)
      go_wp2_with fail
      go_ret
      exact ⟨rfl, hb9⟩
end Go.Proofs.Ytafcbelkhhjcoaa

set_option linter.unusedVariables false
set_option linter.unusedSimpArgs false
set_option maxRecDepth 100000
namespace Go.Proofs.Ytafcbelkhhjcoaa
open Go.RowKit Go.Deep
set_option maxHeartbeats 4000000 in
theorem rgroup_any {w : World} {R : Rou} {ao b : Option Addr} {c d : Nat} {x : Value} {l : List UInt8} (hbf : bfB R.base = true) (hr : OwsN w (.slice ao R.sp.length c) R.sp) (h1 : 1 ≤ R.sp.length) (hx : Rd w x l) : Calls Try.prog 54 #[.agg #[.int .i64 R.ep, .int .i64 R.base, .slice ao R.sp.length c, .int .i64 R.mv, .slice b R.cut.length d], x] w (AnsP w (.int .i64 (grpI R l))) := by
  have HR := hid hr
  have HX := hid hx
  have HG : Hid (grpI R l = if begB l 114 then baseI R.base l else if begB l 120 then entG R.sp l else 0) := hid rfl
  cases l with
  | nil =>
    obtain ⟨a9, c9, rfl⟩ := zrd_form hx
    clear hx hr
    go_enter Try.func54, Try.ntmps54
    go_upto_region 1 with fail
    have hb := (Below.refl w.heap.size w).alloc (Nat.le_refl _) (.cells #[.int .i64 R.ep, .int .i64 R.base, .slice ao R.sp.length c, .int .i64 R.mv, .slice b R.cut.length d] 64)
    have hz := heap_alloc_new w (.cells #[.int .i64 R.ep, .int .i64 R.base, .slice ao R.sp.length c, .int .i64 R.mv, .slice b R.cut.length d] 64)
    have hs : (w.alloc (.cells #[.int .i64 R.ep, .int .i64 R.base, .slice ao R.sp.length c, .int .i64 R.mv, .slice b R.cut.length d] 64)).heap.size = w.heap.size + 1 := by simp
    generalize w.alloc (.cells #[.int .i64 R.ep, .int .i64 R.base, .slice ao R.sp.length c, .int .i64 R.mv, .slice b R.cut.length d] 64) = w1 at *
    have HB := hid hb
    clear hb hz hs
    go_wp2_with fail
    go_ret
    exact ⟨by rw [HG.out]; rfl, HB.out⟩
  | cons q l =>
    obtain ⟨b7, of7, c9, rfl, -, -, h4⟩ := hx.at (by simp)
    have h5 : w.cell? ⟨b7, of7, none⟩ = some (.int .u8 (q.toNat : Int)) := h4 0 (by simp)
    have HH5 := hid h5
    have h6 : (0 : Int) < ((q :: l).length : Int) := by simp
    have hb14 : begB (q :: l) 114 = ((q.toNat : Int) == 114) := rfl
    have hb20 : begB (q :: l) 120 = ((q.toNat : Int) == 120) := rfl
    rw [hb14, hb20] at HG
    clear hx hr h4 h5 hb14 hb20
    generalize hn : q :: l = l9 at *
    clear hn
    go_enter Try.func54, Try.ntmps54
    go_upto_region 1 with fail
    have hb := (Below.refl w.heap.size w).alloc (Nat.le_refl _) (.cells #[.int .i64 R.ep, .int .i64 R.base, .slice ao R.sp.length c, .int .i64 R.mv, .slice b R.cut.length d] 64)
    have hz := heap_alloc_new w (.cells #[.int .i64 R.ep, .int .i64 R.base, .slice ao R.sp.length c, .int .i64 R.mv, .slice b R.cut.length d] 64)
    have hs : (w.alloc (.cells #[.int .i64 R.ep, .int .i64 R.base, .slice ao R.sp.length c, .int .i64 R.mv, .slice b R.cut.length d] 64)).heap.size = w.heap.size + 1 := by simp
    generalize w.alloc (.cells #[.int .i64 R.ep, .int .i64 R.base, .slice ao R.sp.length c, .int .i64 R.mv, .slice b R.cut.length d] 64) = w1 at *
    have C3 := hid (rbase_any (ao := ao) (b := b) (c := c) (d := d) hbf (HX.out.old hb))
    have C4 := hid (rentry_any (b := b) (d := d) (HR.out.old hb) h1 (HX.out.old hb))
    have h5 := (hb.cell (block_cell HH5.out)).trans HH5.out
    have HB := hid hb
    have z0 := cell_in hz 0 _ rfl
    have f0 := free_in hz 0
    have z1 := cell_in hz 1 _ rfl
    have f1 := free_in hz 1
    have z2 := cell_in hz 2 _ rfl
    have f2 := free_in hz 2
    have z3 := cell_in hz 3 _ rfl
    have f3 := free_in hz 3
    have z4 := cell_in hz 4 _ rfl
    have f4 := free_in hz 4
    clear hb hz hs
    cases q1 : ((q.toNat : Int) == 114) with
    | true =>
      rw [q1] at HG
      go_wp2_with (first
        | (go_at_call 50; refine C3.out.mono ?_; rintro en w4 ⟨rfl, hb4⟩; have HB4 := hid (below_step HB.out hb4); clear hb4))
      go_ret
      exact ⟨by rw [HG.out]; rfl, HB4.out⟩
    | false =>
      rw [q1] at HG
      cases q2 : ((q.toNat : Int) == 120) with
      | true =>
        rw [q2] at HG
        go_wp2_with (first
          | (go_at_call 52; refine C4.out.mono ?_; rintro en w4 ⟨rfl, hb4⟩; have HB4 := hid (below_step HB.out hb4); clear hb4))
        go_ret
        exact ⟨by rw [HG.out]; rfl, HB4.out⟩
      | false =>
        rw [q2] at HG
        go_wp2_with fail
        go_ret
        exact ⟨by rw [HG.out]; rfl, HB.out⟩
set_option maxHeartbeats 4000000 in
theorem rowned_none {w : World} {R : Rou} {ao b : Option Addr} {c d : Nat} (hr : OwsN w (.slice ao R.sp.length c) R.sp) {z : Int} (hp : plcI R.sp z = -1) : Calls Try.prog 59 #[.agg #[.int .i64 R.ep, .int .i64 R.base, .slice ao R.sp.length c, .int .i64 R.mv, .slice b R.cut.length d], .int .i64 z] w (SpA w [] []) := by
  have HR := hid hr
  clear hr
  go_enter Try.func59, Try.ntmps59
  go_upto_region 1 with fail
  have hb := (Below.refl w.heap.size w).alloc (Nat.le_refl _) (.cells #[.int .i64 R.ep, .int .i64 R.base, .slice ao R.sp.length c, .int .i64 R.mv, .slice b R.cut.length d] 64)
  have hz := heap_alloc_new w (.cells #[.int .i64 R.ep, .int .i64 R.base, .slice ao R.sp.length c, .int .i64 R.mv, .slice b R.cut.length d] 64)
  have hs : (w.alloc (.cells #[.int .i64 R.ep, .int .i64 R.base, .slice ao R.sp.length c, .int .i64 R.mv, .slice b R.cut.length d] 64)).heap.size = w.heap.size + 1 := by simp
  generalize w.alloc (.cells #[.int .i64 R.ep, .int .i64 R.base, .slice ao R.sp.length c, .int .i64 R.mv, .slice b R.cut.length d] 64) = w1 at *
  have hb2 := hb.alloc hb.size (.cells #[.slice none 0 0, .slice none 0 0] 66)
  have hz2 := heap_alloc_new w1 (.cells #[.slice none 0 0, .slice none 0 0] 66)
  have hz12 := (((Below.refl w1.heap.size w1).alloc (Nat.le_refl _) (.cells #[.slice none 0 0, .slice none 0 0] 66)).block _ (by omega)).trans hz
  have hs2 : (w1.alloc (.cells #[.slice none 0 0, .slice none 0 0] 66)).heap.size = w.heap.size + 2 := by simp; omega
  rw [hs] at hz2
  generalize w1.alloc (.cells #[.slice none 0 0, .slice none 0 0] 66) = w2 at *
  have HB := hid hb2
  have HS := hid hs2
  have HZ1 := hid hz12
  have HZ2 := hid hz2
  have z0 := cell_in hz12 0 _ rfl
  have f0 := free_in hz12 0
  have z1 := cell_in hz12 1 _ rfl
  have f1 := free_in hz12 1
  have z2 := cell_in hz12 2 _ rfl
  have f2 := free_in hz12 2
  have z3 := cell_in hz12 3 _ rfl
  have f3 := free_in hz12 3
  have z4 := cell_in hz12 4 _ rfl
  have f4 := free_in hz12 4
  have CP := hid (at_any (b := b) (d := d) (HR.out.old hb2) z)
  rw [hp] at CP
  clear hb hz hs hb2 hz2 hz12 hs2
  go_upto_region 3 with (first | (go_at_call 118; refine CP.out.mono ?_; rintro en w4 ⟨rfl, hb4⟩; have HB4 := hid (below_step HB.out hb4); have HZ4 := hid ((hb4.block _ (by have := HS.out; omega)).trans HZ2.out); clear hb4 z0 z1 z2 z3 z4 f0 f1 f2 f3 f4))
  have r0 := cell_in HZ4.out 0 _ rfl
  have fr0 := free_in HZ4.out 0
  have r1 := cell_in HZ4.out 1 _ rfl
  have fr1 := free_in HZ4.out 1
  go_wp2_with fail
  have hz9 := put_in (put_in HZ4.out 0 (.slice none 0 0)) 1 (.slice none 0 0)
  have hb9 : Below w.heap.size w ((w4.setCell ⟨w.heap.size + 1, 0, none⟩ (.slice none 0 0)).setCell ⟨w.heap.size + 1, 1, none⟩ (.slice none 0 0)) := (HB4.out.setCell (show w.heap.size ≤ w.heap.size + 1 by omega) _).setCell (show w.heap.size ≤ w.heap.size + 1 by omega) _
  generalize (w4.setCell ⟨w.heap.size + 1, 0, none⟩ (.slice none 0 0)).setCell ⟨w.heap.size + 1, 1, none⟩ (.slice none 0 0) = w9 at *
  (try simp only [Exit.inBlock, Exit.then]); refine bodyPost_ret (results_cell_row rfl _ _ (w.heap.size + 1) 66 _ (0, 0) _ rfl hz9 Try.underlying66 rfl (by kernel_rfl)) rfl ?_
  exact ⟨_, _, _, _, rfl, Rd.nil _, Rd.nil _, hb9⟩

set_option maxHeartbeats 4000000 in
theorem rowned_some {w : World} {R : Rou} {ao b : Option Addr} {c d : Nat} (hr : OwsN w (.slice ao R.sp.length c) R.sp) (hL : ∀ o ∈ R.sp, o.f.length ≤ 140737488355328) {z : Int} {k : Nat} {o : Ow} (hp : plcI R.sp z = (k : Int)) (hk : R.sp[k]? = some o) : Calls Try.prog 59 #[.agg #[.int .i64 R.ep, .int .i64 R.base, .slice ao R.sp.length c, .int .i64 R.mv, .slice b R.cut.length d], .int .i64 z] w (SpA w o.f (toL R.sp k)) := by
  have HR := hid hr
  have HLL := hid hL
  have HK := hid hk
  clear hr hL hk
  go_enter Try.func59, Try.ntmps59
  go_upto_region 1 with fail
  have hb := (Below.refl w.heap.size w).alloc (Nat.le_refl _) (.cells #[.int .i64 R.ep, .int .i64 R.base, .slice ao R.sp.length c, .int .i64 R.mv, .slice b R.cut.length d] 64)
  have hz := heap_alloc_new w (.cells #[.int .i64 R.ep, .int .i64 R.base, .slice ao R.sp.length c, .int .i64 R.mv, .slice b R.cut.length d] 64)
  have hs : (w.alloc (.cells #[.int .i64 R.ep, .int .i64 R.base, .slice ao R.sp.length c, .int .i64 R.mv, .slice b R.cut.length d] 64)).heap.size = w.heap.size + 1 := by simp
  generalize w.alloc (.cells #[.int .i64 R.ep, .int .i64 R.base, .slice ao R.sp.length c, .int .i64 R.mv, .slice b R.cut.length d] 64) = w1 at *
  have hb2 := hb.alloc hb.size (.cells #[.slice none 0 0, .slice none 0 0] 66)
  have hz2 := heap_alloc_new w1 (.cells #[.slice none 0 0, .slice none 0 0] 66)
  have hz12 := (((Below.refl w1.heap.size w1).alloc (Nat.le_refl _) (.cells #[.slice none 0 0, .slice none 0 0] 66)).block _ (by omega)).trans hz
  have hs2 : (w1.alloc (.cells #[.slice none 0 0, .slice none 0 0] 66)).heap.size = w.heap.size + 2 := by simp; omega
  rw [hs] at hz2
  generalize w1.alloc (.cells #[.slice none 0 0, .slice none 0 0] 66) = w2 at *
  have HB := hid hb2
  have HS := hid hs2
  have HZ1 := hid hz12
  have HZ2 := hid hz2
  have z0 := cell_in hz12 0 _ rfl
  have f0 := free_in hz12 0
  have z1 := cell_in hz12 1 _ rfl
  have f1 := free_in hz12 1
  have z2 := cell_in hz12 2 _ rfl
  have f2 := free_in hz12 2
  have z3 := cell_in hz12 3 _ rfl
  have f3 := free_in hz12 3
  have z4 := cell_in hz12 4 _ rfl
  have f4 := free_in hz12 4
  have CP := hid (at_any (b := b) (d := d) (HR.out.old hb2) z)
  rw [hp] at CP
  have hk0 : ¬ (k : Int) < 0 := by omega
  clear hb hz hs hb2 hz2 hz12 hs2
  go_upto_region 4 with (first | (go_at_call 118; refine CP.out.mono ?_; rintro en w4 ⟨rfl, hb4⟩; have HB4 := hid (below_step HB.out hb4); have HZ4 := hid ((hb4.block _ (by have := HS.out; omega)).trans HZ2.out); have HY4 := hid ((hb4.block _ (by have := HS.out; omega)).trans HZ1.out); clear hb4 z0 z1 z2 z3 z4 f0 f1 f2 f3 f4))
  have z0 := cell_in HY4.out 0 _ rfl
  have f0 := free_in HY4.out 0
  have z1 := cell_in HY4.out 1 _ rfl
  have f1 := free_in HY4.out 1
  have z2 := cell_in HY4.out 2 _ rfl
  have f2 := free_in HY4.out 2
  have z3 := cell_in HY4.out 3 _ rfl
  have f3 := free_in HY4.out 3
  have z4 := cell_in HY4.out 4 _ rfl
  have f4 := free_in HY4.out 4
  have CK := hid (rspan_any (b := b) (d := d) (HR.out.old HB4.out) HLL.out HK.out)
  have HS4 : Hid (w.heap.size + 1 < w4.heap.size) := hid (lt_of_block HZ4.out)
  go_wp2_with (first
    | (go_at_call 119; refine CK.out.mono ?_; rintro en w6 ⟨a7, c7, a8, c8, rfl, hf, ht, hb6⟩; have HB6 := hid (below_step HB4.out hb6); have HF6 := hid hf; have HT6 := hid ht; have hz6 := (hb6.block _ HS4.out).trans HZ4.out; have HZ6 := hid hz6; have r0 := cell_in hz6 0 _ rfl; have r1 := cell_in hz6 1 _ rfl; have fr0 := free_in hz6 0; have fr1 := free_in hz6 1; clear hf ht hb6 hz6))
  have hz9 := put_in (put_in HZ6.out 0 (.slice a7 o.f.length c7)) 1 (.slice a8 (toL R.sp k).length c8)
  have hb9 : Below w.heap.size w ((w6.setCell ⟨w.heap.size + 1, 0, none⟩ (.slice a7 o.f.length c7)).setCell ⟨w.heap.size + 1, 1, none⟩ (.slice a8 (toL R.sp k).length c8)) := (HB6.out.setCell (show w.heap.size ≤ w.heap.size + 1 by omega) _).setCell (show w.heap.size ≤ w.heap.size + 1 by omega) _
  have hf9 := rd_put HF6.out HZ6.out (keep2 w6 (w.heap.size + 1) (.slice a7 o.f.length c7) (.slice a8 (toL R.sp k).length c8))
  have ht9 := rd_put HT6.out HZ6.out (keep2 w6 (w.heap.size + 1) (.slice a7 o.f.length c7) (.slice a8 (toL R.sp k).length c8))
  generalize (w6.setCell ⟨w.heap.size + 1, 0, none⟩ (.slice a7 o.f.length c7)).setCell ⟨w.heap.size + 1, 1, none⟩ (.slice a8 (toL R.sp k).length c8) = w9 at *
  (try simp only [Exit.inBlock, Exit.then]); refine bodyPost_ret (results_cell_row rfl _ _ (w.heap.size + 1) 66 _ (0, 0) _ rfl hz9 Try.underlying66 rfl (by kernel_rfl)) rfl ?_
  exact ⟨_, _, _, _, rfl, hf9, ht9, hb9⟩
/-- The least one from k on that is free, of m. -/
def nextF (R : Rou) (m : Nat) : Nat → Nat → Int
  | 0, _ => 0
  | fuel + 1, k => if k < m then (if plcI R.sp (R.base + 1 + (k : Int)) < 0 then R.base + 1 + (k : Int) else nextF R m fuel (k + 1)) else 0
def spareN (s : Int) : Nat := if 4 < s then 4 else s.toNat
def nextI (R : Rou) (s : Int) : Int := nextF R (spareN s) (spareN s + 1) 0
theorem nextF_step {R : Rou} {m k : Nat} (hk : k < m) : nextF R m (m + 1 - k) k = if plcI R.sp (R.base + 1 + (k : Int)) < 0 then R.base + 1 + (k : Int) else nextF R m (m + 1 - (k + 1)) (k + 1) := by
  obtain ⟨f, hf⟩ : ∃ f, m + 1 - k = f + 1 := ⟨m - k, by omega⟩
  have hf2 : m + 1 - (k + 1) = f := by omega
  rw [hf, hf2]
  show (if k < m then _ else _) = _
  rw [if_pos hk]
theorem nextF_end {R : Rou} {m : Nat} : nextF R m (m + 1 - m) m = 0 := by
  have : m + 1 - m = 1 := by omega
  rw [this]
  show (if m < m then _ else _) = _
  rw [if_neg (by omega)]
set_option maxHeartbeats 4000000 in
theorem next_any {w : World} {R : Rou} {ao b : Option Addr} {c d : Nat} (hbf : bfB R.base = true) (hr : OwsN w (.slice ao R.sp.length c) R.sp) (s : Int) : Calls Try.prog 60 #[.agg #[.int .i64 R.ep, .int .i64 R.base, .slice ao R.sp.length c, .int .i64 R.mv, .slice b R.cut.length d], .int .i64 s] w (AnsP w (.int .i64 (nextI R s))) := by
  have HC := fun W => bf_any W R.base
  rw [hbf] at HC
  have hbb : 1 ≤ R.base ∧ R.base ≤ 4 := by unfold bfB at hbf; simpa using hbf
  have HBB := hid hbb
  have HR := hid hr
  obtain ⟨m, hm⟩ : ∃ m, spareN s = m := ⟨_, rfl⟩
  have HNI : Hid (nextI R s = nextF R m (m + 1 - 0) 0) := hid (by unfold nextI; rw [hm]; rfl)
  have hm4n : m ≤ 4 := by rw [← hm]; unfold spareN; split <;> omega
  have HSM : Hid (spareN s = m) := hid hm
  clear hbf hr hbb hm
  go_enter Try.func60, Try.ntmps60
  go_upto_region 1 with fail
  have hb := (Below.refl w.heap.size w).alloc (Nat.le_refl _) (.cells #[.int .i64 R.ep, .int .i64 R.base, .slice ao R.sp.length c, .int .i64 R.mv, .slice b R.cut.length d] 64)
  have hz := heap_alloc_new w (.cells #[.int .i64 R.ep, .int .i64 R.base, .slice ao R.sp.length c, .int .i64 R.mv, .slice b R.cut.length d] 64)
  have hs : (w.alloc (.cells #[.int .i64 R.ep, .int .i64 R.base, .slice ao R.sp.length c, .int .i64 R.mv, .slice b R.cut.length d] 64)).heap.size = w.heap.size + 1 := by simp
  generalize w.alloc (.cells #[.int .i64 R.ep, .int .i64 R.base, .slice ao R.sp.length c, .int .i64 R.mv, .slice b R.cut.length d] 64) = w1 at *
  have HKR : Hid (∀ V, Below w1.heap.size w1 V → V.cell? ⟨w.heap.size, 0, none⟩ = some (.int .i64 R.ep) ∧ V.cell? ⟨w.heap.size, 1, none⟩ = some (.int .i64 R.base) ∧ V.cell? ⟨w.heap.size, 2, none⟩ = some (.slice ao R.sp.length c) ∧ V.cell? ⟨w.heap.size, 3, none⟩ = some (.int .i64 R.mv) ∧ V.cell? ⟨w.heap.size, 4, none⟩ = some (.slice b R.cut.length d)) := hid (fun V hV => by
    have h9 := (hV.block _ (by omega)).trans hz
    exact ⟨cell_in h9 0 _ rfl, cell_in h9 1 _ rfl, cell_in h9 2 _ rfl, cell_in h9 3 _ rfl, cell_in h9 4 _ rfl⟩)
  have HB := hid hb
  clear hb hz hs
  obtain ⟨q0, q1, q2, q3, q4⟩ := HKR.out w1 (Below.refl _ _)
  go_upto_region 3 with (first | (go_at_call 115; refine (HC _).mono ?_; rintro en w3 ⟨rfl, e3⟩; obtain rfl : w1 = w3 := e3.symm))
  by_cases h4 : 4 < s
  · have hmm : m = 4 := by have := HSM.out; unfold spareN at this; rw [if_pos h4] at this; omega
    clear q0 q1 q2 q3 q4
    go_wp2_with fail
    go_loopw [13] (fun j wr => ∃ k : Nat, k ≤ m ∧ j = .int .i64 (k : Int) ∧ Hid (nextI R s = nextF R m (m + 1 - k) k) ∧ Hid (Below w1.heap.size w1 wr))
      (fun j _ => 5 - (intOf j).toNat)
    case atStart => exact ⟨0, by omega, rfl, HNI, hid (Below.refl _ _)⟩
    case round =>
      obtain ⟨k, hk, rfl, HN, HX⟩ := hrel
      have HW := hid (below_step HB.out HX.out)
      obtain ⟨q0, q1, q2, q3, q4⟩ := HKR.out _ HX.out
      by_cases hlt : k < m
      · have hki : (k : Int) < 4 := by omega
        have hst := nextF_step (R := R) hlt
        have hw1 : IntKind.i64.wrap (R.base + 1) = R.base + 1 := IntWalk.i64_in _ (by have := HBB.out; omega)
        have hw2 : IntKind.i64.wrap (R.base + 1 + (k : Int)) = R.base + 1 + (k : Int) := IntWalk.i64_in _ (by have := HBB.out; omega)
        have hw3 : wrap64 (R.base + 1) = R.base + 1 := IntWalk.wrap64_in _ (by have := HBB.out; omega)
        have hw4 : wrap64 (R.base + 1 + (k : Int)) = R.base + 1 + (k : Int) := IntWalk.wrap64_in _ (by have := HBB.out; omega)
        have CP := hid (place_any (b := b) (d := d) (HR.out.old HW.out) (R.base + 1 + (k : Int)))
        generalize plcI R.sp (R.base + 1 + (k : Int)) = pv at *
        by_cases hp : pv < 0
        · rw [if_pos hp] at hst
          have HS := hid hst
          clear hst
          go_wp2_with (first | (go_at_call 136; refine CP.out.mono ?_; rintro en w4 ⟨rfl, hb4⟩; have HB4 := hid (below_step HW.out hb4); clear hb4))
          go_ret
          exact ⟨by rw [HN.out, HS.out]; rfl, HB4.out⟩
        · rw [if_neg hp] at hst
          have HS := hid hst
          clear hst
          go_wp2_with (first | (go_at_call 136; refine CP.out.mono ?_; rintro en w4 ⟨rfl, hb4⟩; have HX4 := hid (HX.out.trans (hb4.mono HX.out.size)); clear hb4))
          go_roundw
          · exact ⟨k + 1, by omega, by go_num, hid (by rw [HN.out, HS.out]), HX4⟩
          · simp [intOf]; omega
      · obtain rfl : k = m := by omega
        have hki : ¬ (k : Int) < 4 := by omega
        go_wp2_with fail
        go_ret
        exact ⟨by rw [HN.out, nextF_end]; rfl, HW.out⟩
  · have hmm : m = s.toNat := by have := HSM.out; unfold spareN at this; rw [if_neg h4] at this; omega
    clear q0 q1 q2 q3 q4
    go_wp2_with fail
    go_loopw [13] (fun j wr => ∃ k : Nat, k ≤ m ∧ j = .int .i64 (k : Int) ∧ Hid (nextI R s = nextF R m (m + 1 - k) k) ∧ Hid (Below w1.heap.size w1 wr))
      (fun j _ => 5 - (intOf j).toNat)
    case atStart => exact ⟨0, by omega, rfl, HNI, hid (Below.refl _ _)⟩
    case round =>
      obtain ⟨k, hk, rfl, HN, HX⟩ := hrel
      have HW := hid (below_step HB.out HX.out)
      obtain ⟨q0, q1, q2, q3, q4⟩ := HKR.out _ HX.out
      by_cases hlt : k < m
      · have hki : (k : Int) < s := by omega
        have hst := nextF_step (R := R) hlt
        have hw1 : IntKind.i64.wrap (R.base + 1) = R.base + 1 := IntWalk.i64_in _ (by have := HBB.out; omega)
        have hw2 : IntKind.i64.wrap (R.base + 1 + (k : Int)) = R.base + 1 + (k : Int) := IntWalk.i64_in _ (by have := HBB.out; omega)
        have hw3 : wrap64 (R.base + 1) = R.base + 1 := IntWalk.wrap64_in _ (by have := HBB.out; omega)
        have hw4 : wrap64 (R.base + 1 + (k : Int)) = R.base + 1 + (k : Int) := IntWalk.wrap64_in _ (by have := HBB.out; omega)
        have CP := hid (place_any (b := b) (d := d) (HR.out.old HW.out) (R.base + 1 + (k : Int)))
        generalize plcI R.sp (R.base + 1 + (k : Int)) = pv at *
        by_cases hp : pv < 0
        · rw [if_pos hp] at hst
          have HS := hid hst
          clear hst
          go_wp2_with (first | (go_at_call 136; refine CP.out.mono ?_; rintro en w4 ⟨rfl, hb4⟩; have HB4 := hid (below_step HW.out hb4); clear hb4))
          go_ret
          exact ⟨by rw [HN.out, HS.out]; rfl, HB4.out⟩
        · rw [if_neg hp] at hst
          have HS := hid hst
          clear hst
          go_wp2_with (first | (go_at_call 136; refine CP.out.mono ?_; rintro en w4 ⟨rfl, hb4⟩; have HX4 := hid (HX.out.trans (hb4.mono HX.out.size)); clear hb4))
          go_roundw
          · exact ⟨k + 1, by omega, by go_num, hid (by rw [HN.out, HS.out]), HX4⟩
          · simp [intOf]; omega
      · obtain rfl : k = m := by omega
        have hki : ¬ (k : Int) < s := by omega
        go_wp2_with fail
        go_ret
        exact ⟨by rw [HN.out, nextF_end]; rfl, HW.out⟩
set_option maxHeartbeats 4000000 in
theorem rnext_any {w : World} {R : Rou} {ao b : Option Addr} {c d : Nat} (hbf : bfB R.base = true) (hr : OwsN w (.slice ao R.sp.length c) R.sp) (s : Int) (hs9 : i64 s) : Calls Try.prog 61 #[.agg #[.int .i64 R.ep, .int .i64 R.base, .slice ao R.sp.length c, .int .i64 R.mv, .slice b R.cut.length d], .int .i64 s] w (AnsP w (.int .i64 (nextI R s))) := by
  have hbb : 1 ≤ R.base ∧ R.base ≤ 4 := by unfold bfB at hbf; simpa using hbf
  have HBB := hid hbb
  have HR := hid hr
  obtain ⟨m, hm⟩ : ∃ m, spareN s = m := ⟨_, rfl⟩
  have HNI : Hid (nextI R s = nextF R m (m + 1 - 0) 0) := hid (by unfold nextI; rw [hm]; rfl)
  have hm4n : m ≤ 4 := by rw [← hm]; unfold spareN; split <;> omega
  have HSM : Hid (spareN s = m) := hid hm
  have HLO := hid hs9
  unfold i64 at HLO
  have hw1 : IntKind.i64.wrap (R.base + 1) = R.base + 1 := IntWalk.i64_in _ (by omega)
  have hw3 : wrap64 (R.base + 1) = R.base + 1 := IntWalk.wrap64_in _ (by omega)
  clear hbf hr hbb hm hs9
  go_enter Try.func61, Try.ntmps61
  go_upto_region 1 with fail
  have hb := (Below.refl w.heap.size w).alloc (Nat.le_refl _) (.cells #[.int .i64 R.ep, .int .i64 R.base, .slice ao R.sp.length c, .int .i64 R.mv, .slice b R.cut.length d] 64)
  have hz := heap_alloc_new w (.cells #[.int .i64 R.ep, .int .i64 R.base, .slice ao R.sp.length c, .int .i64 R.mv, .slice b R.cut.length d] 64)
  have hs : (w.alloc (.cells #[.int .i64 R.ep, .int .i64 R.base, .slice ao R.sp.length c, .int .i64 R.mv, .slice b R.cut.length d] 64)).heap.size = w.heap.size + 1 := by simp
  generalize w.alloc (.cells #[.int .i64 R.ep, .int .i64 R.base, .slice ao R.sp.length c, .int .i64 R.mv, .slice b R.cut.length d] 64) = w1 at *
  have HKR : Hid (∀ V, Below w1.heap.size w1 V → V.cell? ⟨w.heap.size, 0, none⟩ = some (.int .i64 R.ep) ∧ V.cell? ⟨w.heap.size, 1, none⟩ = some (.int .i64 R.base) ∧ V.cell? ⟨w.heap.size, 2, none⟩ = some (.slice ao R.sp.length c) ∧ V.cell? ⟨w.heap.size, 3, none⟩ = some (.int .i64 R.mv) ∧ V.cell? ⟨w.heap.size, 4, none⟩ = some (.slice b R.cut.length d)) := hid (fun V hV => by
    have h9 := (hV.block _ (by omega)).trans hz
    exact ⟨cell_in h9 0 _ rfl, cell_in h9 1 _ rfl, cell_in h9 2 _ rfl, cell_in h9 3 _ rfl, cell_in h9 4 _ rfl⟩)
  have HB := hid hb
  clear hb hz hs
  obtain ⟨q0, q1, q2, q3, q4⟩ := HKR.out w1 (Below.refl _ _)
  go_upto_block 0 with fail
  go_wp2_with fail
  by_cases h4 : 4 < s
  · have hmm : m = 4 := by have := HSM.out; unfold spareN at this; rw [if_pos h4] at this; omega
    clear q0 q1 q2 q3 q4
    go_loopw [5] (fun g wr => ∃ k : Nat, k ≤ m ∧ g = .int .i64 (R.base + 1 + (k : Int)) ∧ Hid (nextI R s = nextF R m (m + 1 - k) k) ∧ Hid (Below w1.heap.size w1 wr))
      (fun g _ => 20 - (intOf g).toNat)
    case atStart => exact ⟨0, by omega, by simp, HNI, hid (Below.refl _ _)⟩
    case round =>
      obtain ⟨k, hk, rfl, HN, HX⟩ := hrel
      have HW := hid (below_step HB.out HX.out)
      obtain ⟨q0, q1, q2, q3, q4⟩ := HKR.out _ HX.out
      have hw5 : wrap64 (R.base + 4) = R.base + 4 := IntWalk.wrap64_in _ (by have := HBB.out; have := HLO.out; omega)
      have hw6 : IntKind.i64.wrap (R.base + 4) = R.base + 4 := IntWalk.i64_in _ (by have := HBB.out; have := HLO.out; omega)
      by_cases hlt : k < m
      · have hki : R.base + 1 + (k : Int) ≤ R.base + 4 := by omega
        have hst := nextF_step (R := R) hlt
        have hw2 : IntKind.i64.wrap (R.base + 1 + (k : Int) + 1) = R.base + 1 + (k : Int) + 1 := IntWalk.i64_in _ (by have := HBB.out; omega)
        have hw4 : wrap64 (R.base + 1 + (k : Int) + 1) = R.base + 1 + (k : Int) + 1 := IntWalk.wrap64_in _ (by have := HBB.out; omega)
        have CP := hid (at_any (b := b) (d := d) (HR.out.old HW.out) (R.base + 1 + (k : Int)))
        generalize plcI R.sp (R.base + 1 + (k : Int)) = pv at *
        by_cases hp : pv < 0
        · rw [if_pos hp] at hst
          have HS := hid hst
          clear hst
          go_wp2_with (first | (go_at_call 118; refine CP.out.mono ?_; rintro en w4 ⟨rfl, hb4⟩; have HB4 := hid (below_step HW.out hb4); clear hb4))
          go_ret
          exact ⟨by rw [HN.out, HS.out]; rfl, HB4.out⟩
        · rw [if_neg hp] at hst
          have HS := hid hst
          clear hst
          go_wp2_with (first | (go_at_call 118; refine CP.out.mono ?_; rintro en w4 ⟨rfl, hb4⟩; have HX4 := hid (HX.out.trans (hb4.mono HX.out.size)); clear hb4))
          go_roundw
          · exact ⟨k + 1, by omega, by congr 1; omega, hid (by rw [HN.out, HS.out]), HX4⟩
          · have := HBB.out; simp [intOf]; omega
      · obtain rfl : k = m := by omega
        have hki : ¬ R.base + 1 + (k : Int) ≤ R.base + 4 := by omega
        go_wp2_with fail
        go_ret
        exact ⟨by rw [HN.out, nextF_end]; rfl, HW.out⟩
  · have hmm : m = s.toNat := by have := HSM.out; unfold spareN at this; rw [if_neg h4] at this; omega
    clear q0 q1 q2 q3 q4
    go_loopw [5] (fun g wr => ∃ k : Nat, k ≤ m ∧ g = .int .i64 (R.base + 1 + (k : Int)) ∧ Hid (nextI R s = nextF R m (m + 1 - k) k) ∧ Hid (Below w1.heap.size w1 wr))
      (fun g _ => 20 - (intOf g).toNat)
    case atStart => exact ⟨0, by omega, by simp, HNI, hid (Below.refl _ _)⟩
    case round =>
      obtain ⟨k, hk, rfl, HN, HX⟩ := hrel
      have HW := hid (below_step HB.out HX.out)
      obtain ⟨q0, q1, q2, q3, q4⟩ := HKR.out _ HX.out
      have hw5 : wrap64 (R.base + s) = R.base + s := IntWalk.wrap64_in _ (by have := HBB.out; have := HLO.out; omega)
      have hw6 : IntKind.i64.wrap (R.base + s) = R.base + s := IntWalk.i64_in _ (by have := HBB.out; have := HLO.out; omega)
      by_cases hlt : k < m
      · have hki : R.base + 1 + (k : Int) ≤ R.base + s := by omega
        have hst := nextF_step (R := R) hlt
        have hw2 : IntKind.i64.wrap (R.base + 1 + (k : Int) + 1) = R.base + 1 + (k : Int) + 1 := IntWalk.i64_in _ (by have := HBB.out; omega)
        have hw4 : wrap64 (R.base + 1 + (k : Int) + 1) = R.base + 1 + (k : Int) + 1 := IntWalk.wrap64_in _ (by have := HBB.out; omega)
        have CP := hid (at_any (b := b) (d := d) (HR.out.old HW.out) (R.base + 1 + (k : Int)))
        generalize plcI R.sp (R.base + 1 + (k : Int)) = pv at *
        by_cases hp : pv < 0
        · rw [if_pos hp] at hst
          have HS := hid hst
          clear hst
          go_wp2_with (first | (go_at_call 118; refine CP.out.mono ?_; rintro en w4 ⟨rfl, hb4⟩; have HB4 := hid (below_step HW.out hb4); clear hb4))
          go_ret
          exact ⟨by rw [HN.out, HS.out]; rfl, HB4.out⟩
        · rw [if_neg hp] at hst
          have HS := hid hst
          clear hst
          go_wp2_with (first | (go_at_call 118; refine CP.out.mono ?_; rintro en w4 ⟨rfl, hb4⟩; have HX4 := hid (HX.out.trans (hb4.mono HX.out.size)); clear hb4))
          go_roundw
          · exact ⟨k + 1, by omega, by congr 1; omega, hid (by rw [HN.out, HS.out]), HX4⟩
          · have := HBB.out; simp [intOf]; omega
      · obtain rfl : k = m := by omega
        have hki : ¬ R.base + 1 + (k : Int) ≤ R.base + s := by omega
        go_wp2_with fail
        go_ret
        exact ⟨by rw [HN.out, nextF_end]; rfl, HW.out⟩
def maxL (a b : List UInt8) : List UInt8 := if Op.bytesLess b a then a else b
def rmeetB (F1 T1 F2 T2 : List UInt8) : Bool := (decide (T1 = []) || Op.bytesLess (maxL F1 F2) T1) && (decide (T2 = []) || Op.bytesLess (maxL F1 F2) T2)
theorem run_maxs {P : Program} (a b : List UInt8) (W : World) (ts : Array TypeId) (t : TypeId) : (Builtin.max_ ts t #[.string ⟨a.toArray⟩, .string ⟨b.toArray⟩]).run P W = .ok (.string ⟨(maxL a b).toArray⟩) W := by
  have h : (Builtin.max_ ts t #[.string ⟨a.toArray⟩, .string ⟨b.toArray⟩]).run P W = .ok (.string (if !Op.bytesLess a b then ⟨a.toArray⟩ else ⟨b.toArray⟩)) W := by
    simp [Builtin.max_, Builtin.max2, Op.stringOp, asBool, ByteArray.toList_eq]
  rw [h]
  unfold maxL
  cases h1 : Op.bytesLess a b with
  | true => rw [less_asymm h1]; rfl
  | false =>
    cases h2 : Op.bytesLess b a with
    | true => rfl
    | false => rw [less_tot h1 h2]; rfl
theorem rmeet_eq {F1 T1 F2 T2 : List UInt8} (h : T2 ≠ []) : rmeetB F1 T1 F2 T2 = meetB F1 T1 F2 T2 := by
  have hm : maxL F1 F2 = bothF F1 F2 := rfl
  unfold rmeetB meetB
  rw [hm]
  generalize bothF F1 F2 = m
  unfold bothT
  rw [decide_eq_false h]
  by_cases h1 : T1 = []
  · rw [decide_eq_true h1]; simp
  · rw [decide_eq_false h1]
    simp only [Bool.false_or, Bool.not_false, Bool.true_and]
    cases h2 : Op.bytesLess T1 T2 with
    | true =>
      simp only [if_true]
      cases h3 : Op.bytesLess m T1 with
      | true => rw [less_trans h3 h2]; rfl
      | false => rfl
    | false =>
      simp only [Bool.false_eq_true, if_false]
      cases h3 : Op.bytesLess m T2 with
      | true => rw [lt_le h3 h2]; rfl
      | false => simp
set_option maxHeartbeats 4000000 in
theorem rmeet_any {w : World} {a1 a2 a3 a4 : Option Addr} {c1 c2 c3 c4 : Nat} {F1 T1 F2 T2 : List UInt8} (h1 : Rd w (.slice a1 F1.length c1) F1) (h2 : Rd w (.slice a2 T1.length c2) T1) (h3 : Rd w (.slice a3 F2.length c3) F2) (h4 : Rd w (.slice a4 T2.length c4) T2) :
    Calls Try.prog 127 #[.agg #[.slice a1 F1.length c1, .slice a2 T1.length c2], .agg #[.slice a3 F2.length c3, .slice a4 T2.length c4]] w (AnsP w (.bool (rmeetB F1 T1 F2 T2))) := by
  go_enter Try.func127, Try.ntmps127
  go_upto_region 1 with fail
  have hb1 := (Below.refl w.heap.size w).alloc (Nat.le_refl _) (.cells #[.slice a1 F1.length c1, .slice a2 T1.length c2] 66)
  have hz1 := heap_alloc_new w (.cells #[.slice a1 F1.length c1, .slice a2 T1.length c2] 66)
  have hs1 : (w.alloc (.cells #[.slice a1 F1.length c1, .slice a2 T1.length c2] 66)).heap.size = w.heap.size + 1 := by simp
  generalize w.alloc (.cells #[.slice a1 F1.length c1, .slice a2 T1.length c2] 66) = w1 at *
  have hb2 := hb1.alloc (by omega) (.cells #[.slice a3 F2.length c3, .slice a4 T2.length c4] 66)
  have hz2 := heap_alloc_new w1 (.cells #[.slice a3 F2.length c3, .slice a4 T2.length c4] 66)
  have hz12 := (((Below.refl w1.heap.size w1).alloc (Nat.le_refl _) (.cells #[.slice a3 F2.length c3, .slice a4 T2.length c4] 66)).block _ (by omega)).trans hz1
  rw [hs1] at hz2
  generalize w1.alloc (.cells #[.slice a3 F2.length c3, .slice a4 T2.length c4] 66) = w2 at *
  have p0 := cell_in hz12 0 _ rfl
  have fp0 := free_in hz12 0
  have p1 := cell_in hz12 1 _ rfl
  have fp1 := free_in hz12 1
  have q0 := cell_in hz2 0 _ rfl
  have fq0 := free_in hz2 0
  have q1 := cell_in hz2 1 _ rfl
  have fq1 := free_in hz2 1
  have t1 := (h1.old hb2).conv (P := Try.prog) 62 9 5 Try.underlying62 Try.underlying5 Try.underlying9
  have t2 := (h2.old hb2).conv (P := Try.prog) 62 9 5 Try.underlying62 Try.underlying5 Try.underlying9
  have t3 := (h3.old hb2).conv (P := Try.prog) 62 9 5 Try.underlying62 Try.underlying5 Try.underlying9
  have t4 := (h4.old hb2).conv (P := Try.prog) 62 9 5 Try.underlying62 Try.underlying5 Try.underlying9
  have tm := fun W ts t => run_maxs (P := Try.prog) F1 F2 W ts t
  have HRM : Hid (rmeetB F1 T1 F2 T2 = ((decide (T1 = []) || Op.bytesLess (maxL F1 F2) T1) && (decide (T2 = []) || Op.bytesLess (maxL F1 F2) T2))) := hid rfl
  generalize maxL F1 F2 = mm at *
  have HB := hid hb2
  clear hb1 hz1 hs1 hb2 hz2 hz12 h1 h2 h3 h4
  have n1 : T1 = [] ↔ T1.length = 0 := List.length_eq_zero_iff.symm
  have n2 : T2 = [] ↔ T2.length = 0 := List.length_eq_zero_iff.symm
  have hA : Hid (rmeetB F1 T1 F2 T2 = ((decide (T1.length = 0) || Op.bytesLess mm T1) && (decide (T2.length = 0) || Op.bytesLess mm T2))) := hid (by rw [HRM.out]; simp only [n1, n2])
  clear n1 n2 HRM
  by_cases g1 : T1.length = 0
  · have i1 : ((T1.length : Nat) : Int) = 0 := by omega
    have j1 : (((T1.length : Nat) : Int) == 0) = true := by simpa using i1
    by_cases g2 : T2.length = 0
    · have i2 : ((T2.length : Nat) : Int) = 0 := by omega
      have j2 : (((T2.length : Nat) : Int) == 0) = true := by simpa using i2
      go_wp2_with fail
      go_ret
      exact ⟨by rw [hA.out]; simp [g1, g2], HB.out⟩
    · have i2 : ¬ ((T2.length : Nat) : Int) = 0 := by omega
      have j2 : (((T2.length : Nat) : Int) == 0) = false := by simpa using i2
      go_wp2_with fail
      go_ret
      exact ⟨by rw [hA.out]; simp [g1, g2, ByteArray.toList_eq], HB.out⟩
  · have i1 : ¬ ((T1.length : Nat) : Int) = 0 := by omega
    have j1 : (((T1.length : Nat) : Int) == 0) = false := by simpa using i1
    cases g3 : Op.bytesLess mm T1 with
    | false =>
      go_wp2_with fail
      go_ret
      exact ⟨by rw [hA.out]; simp [g1, g3], HB.out⟩
    | true =>
      by_cases g2 : T2.length = 0
      · have i2 : ((T2.length : Nat) : Int) = 0 := by omega
        have j2 : (((T2.length : Nat) : Int) == 0) = true := by simpa using i2
        go_wp2_with fail
        go_ret
        exact ⟨by rw [hA.out]; simp [g1, g2, g3], HB.out⟩
      · have i2 : ¬ ((T2.length : Nat) : Int) = 0 := by omega
        have j2 : (((T2.length : Nat) : Int) == 0) = false := by simpa using i2
        go_wp2_with fail
        go_ret
        exact ⟨by rw [hA.out]; simp [g1, g2, g3, ByteArray.toList_eq], HB.out⟩
end Go.Proofs.Ytafcbelkhhjcoaa

set_option linter.unusedVariables false
set_option linter.unusedSimpArgs false
set_option maxRecDepth 100000
namespace Go.Proofs.Ytafcbelkhhjcoaa
open Go.RowKit Go.Deep

def gmeet (R : Rou) (F T : List UInt8) (g : Int) : Bool := decide (0 ≤ plcI R.sp g) && (match R.sp[(plcI R.sp g).toNat]? with | some o => rmeetB F T o.f (toL R.sp (plcI R.sp g).toNat) | none => false)
def gmL (R : Rou) (F T : List UInt8) : Nat → List Int
  | 0 => []
  | n + 1 => gmL R F T n ++ (if gmeet R F T (R.base + 1 + (n : Int)) then [R.base + 1 + (n : Int)] else [])
def rOverL (R : Rou) (F T : List UInt8) : List Int := (if rmeetB F T [114] [115] then basesL R.base.toNat else []) ++ gmL R F T 4
theorem gm_len (R : Rou) (F T : List UInt8) : ∀ n, (gmL R F T n).length ≤ n
  | 0 => Nat.le_refl _
  | n + 1 => by
    have := gm_len R F T n
    unfold gmL
    rw [List.length_append]
    split <;> simp <;> omega
/-- A list is told, as it is. -/
def LsA (w : World) (L : List Int) (e : Ending) (w' : World) : Prop :=
  ∃ v, e = .returned v ∧ w'.ownsRow w.heap.size 3 1 v L.length (L.map iv) ∧ Below w.heap.size w w'

set_option maxHeartbeats 16000000 in
theorem rover_any {w : World} {R : Rou} {ao b : Option Addr} {c d : Nat} (hbf : bfB R.base = true) (hr : OwsN w (.slice ao R.sp.length c) R.sp) (hL : ∀ o ∈ R.sp, o.f.length ≤ 140737488355328) {a1 a2 : Option Addr} {c1 c2 : Nat} {F T : List UInt8} (h1 : Rd w (.slice a1 F.length c1) F) (h2 : Rd w (.slice a2 T.length c2) T) :
    Calls Try.prog 57 #[.agg #[.int .i64 R.ep, .int .i64 R.base, .slice ao R.sp.length c, .int .i64 R.mv, .slice b R.cut.length d], .agg #[.slice a1 F.length c1, .slice a2 T.length c2]] w (LsA w (rOverL R F T)) := by
  have hbb : 1 ≤ R.base ∧ R.base ≤ 4 := by unfold bfB at hbf; simpa using hbf
  have HR := hid hr
  have HLL := hid hL
  have HBB := hid hbb
  have H1 := hid h1
  have H2 := hid h2
  clear hr hbf h1 h2 hbb hL
  go_enter Try.func57, Try.ntmps57
  go_upto_region 1 with fail
  have hb := (Below.refl w.heap.size w).alloc (Nat.le_refl _) (.cells #[.int .i64 R.ep, .int .i64 R.base, .slice ao R.sp.length c, .int .i64 R.mv, .slice b R.cut.length d] 64)
  have hz := heap_alloc_new w (.cells #[.int .i64 R.ep, .int .i64 R.base, .slice ao R.sp.length c, .int .i64 R.mv, .slice b R.cut.length d] 64)
  have hs : (w.alloc (.cells #[.int .i64 R.ep, .int .i64 R.base, .slice ao R.sp.length c, .int .i64 R.mv, .slice b R.cut.length d] 64)).heap.size = w.heap.size + 1 := by simp
  generalize w.alloc (.cells #[.int .i64 R.ep, .int .i64 R.base, .slice ao R.sp.length c, .int .i64 R.mv, .slice b R.cut.length d] 64) = w1 at *
  have hb2 := hb.alloc hb.size (.cells #[.slice a1 F.length c1, .slice a2 T.length c2] 66)
  have hz2 := heap_alloc_new w1 (.cells #[.slice a1 F.length c1, .slice a2 T.length c2] 66)
  have hz12 := (((Below.refl w1.heap.size w1).alloc (Nat.le_refl _) (.cells #[.slice a1 F.length c1, .slice a2 T.length c2] 66)).block _ (by omega)).trans hz
  have hs2 : (w1.alloc (.cells #[.slice a1 F.length c1, .slice a2 T.length c2] 66)).heap.size = w.heap.size + 2 := by simp; omega
  rw [hs] at hz2
  generalize w1.alloc (.cells #[.slice a1 F.length c1, .slice a2 T.length c2] 66) = w2 at *
  have HB2 := hid hb2
  have HS2 := hid hs2
  have HKR : Hid (∀ V, Below w2.heap.size w2 V → V.cell? ⟨w.heap.size, 0, none⟩ = some (.int .i64 R.ep) ∧ V.cell? ⟨w.heap.size, 1, none⟩ = some (.int .i64 R.base) ∧ V.cell? ⟨w.heap.size, 2, none⟩ = some (.slice ao R.sp.length c) ∧ V.cell? ⟨w.heap.size, 3, none⟩ = some (.int .i64 R.mv) ∧ V.cell? ⟨w.heap.size, 4, none⟩ = some (.slice b R.cut.length d)) := hid (fun V hV => by
    have h9 := (hV.block _ (by omega)).trans hz12
    exact ⟨cell_in h9 0 _ rfl, cell_in h9 1 _ rfl, cell_in h9 2 _ rfl, cell_in h9 3 _ rfl, cell_in h9 4 _ rfl⟩)
  have HKS : Hid (∀ V, Below w2.heap.size w2 V → V.cell? ⟨w.heap.size + 1, 0, none⟩ = some (.slice a1 F.length c1) ∧ V.cell? ⟨w.heap.size + 1, 1, none⟩ = some (.slice a2 T.length c2)) := hid (fun V hV => by
    have h9 := (hV.block _ (by omega)).trans hz2
    exact ⟨cell_in h9 0 _ rfl, cell_in h9 1 _ rfl⟩)
  clear hb hz hs hb2 hz2 hz12 hs2
  have HN0 : Hid (w2.ownsRow w2.heap.size 3 1 (.slice none 0 0) 0 (([] : List Int).map iv)) := hid (World.ownsRow_nil _ _ _ _)
  obtain ⟨p0, p1⟩ := HKS.out w2 (Below.refl _ _)
  have hza := heap_alloc_new w2 (.cells #[.int .u8 114] 5)
  have hba := (Below.refl w2.heap.size w2).alloc (Nat.le_refl _) (.cells #[.int .u8 114] 5)
  have hsa : (w2.alloc (.cells #[.int .u8 114] 5)).heap.size = w2.heap.size + 1 := by simp
  have hzb := heap_alloc_new (w2.alloc (.cells #[.int .u8 114] 5)) (.cells #[.int .u8 115] 5)
  have hbb9 := hba.alloc hba.size (.cells #[.int .u8 115] 5)
  have hza2 := (((Below.refl (w2.alloc (.cells #[.int .u8 114] 5)).heap.size (w2.alloc (.cells #[.int .u8 114] 5))).alloc (Nat.le_refl _) (.cells #[.int .u8 115] 5)).block _ (by omega)).trans hza
  rw [hsa] at hzb
  have CM := hid (rmeet_any (H1.out.old (below_step HB2.out hbb9)) (H2.out.old (below_step HB2.out hbb9)) (F2 := [114]) (T2 := [115]) (zrd_one hza2) (zrd_one hzb))
  have HXb := hid hbb9
  clear hza hba hsa hzb hbb9 hza2
  have HOL : Hid (rOverL R F T = (if rmeetB F T [114] [115] then basesL R.base.toNat else []) ++ gmL R F T 4) := hid rfl
  obtain ⟨nb, hnb⟩ : ∃ nb, R.base.toNat = nb := ⟨_, rfl⟩
  rw [hnb] at HOL
  have HNB : Hid ((nb : Int) = R.base) := hid (by have := HBB.out; omega)
  have hnl : nb ≤ 4 := by have := HBB.out; omega
  clear hnb
  cases hm0 : rmeetB F T [114] [115] with
  | false =>
    rw [hm0] at CM HOL
    have hw1 : IntKind.i64.wrap (R.base + 1) = R.base + 1 := IntWalk.i64_in _ (by have := HBB.out; omega)
    have hw3 : wrap64 (R.base + 1) = R.base + 1 := IntWalk.wrap64_in _ (by have := HBB.out; omega)
    go_wp2_with (first | (go_at_call 127; refine CM.out.mono ?_; rintro en w3 ⟨rfl, hb3⟩; have HX3 := hid (HXb.out.trans (hb3.mono HXb.out.size)); clear hb3 p0 p1; obtain ⟨q0, q1, q2, q3, q4⟩ := HKR.out _ HX3.out))
    clear q0 q1 q2 q3 q4
    have HN3 := hid (own_old HN0.out HX3.out)
    go_loopw [7, 5] (fun g v wr => ∃ k : Nat, k ≤ 4 ∧ g = .int .i64 (R.base + 1 + (k : Int)) ∧ Hid (wr.ownsRow w2.heap.size 3 1 v (([] : List Int) ++ gmL R F T k).length ((([] : List Int) ++ gmL R F T k).map iv)) ∧ Hid (Below w2.heap.size w2 wr))
      (fun g _ _ => 20 - (intOf g).toNat)
    case atStart => exact ⟨0, by omega, by simp, hid (by have := HN3.out; simpa [gmL] using this), HX3⟩
    case round =>
      obtain ⟨k, hk, rfl, HOr, HBr⟩ := hrel
      have HBw := hid (below_step HB2.out HBr.out)
      obtain ⟨q0, q1, q2, q3, q4⟩ := HKR.out _ HBr.out
      have hw5 : IntKind.i64.wrap (R.base + 4) = R.base + 4 := IntWalk.i64_in _ (by have := HBB.out; omega)
      have hw6 : wrap64 (R.base + 4) = R.base + 4 := IntWalk.wrap64_in _ (by have := HBB.out; omega)
      have hw7 : IntKind.i64.wrap (R.base + 1 + (k : Int) + 1) = R.base + 1 + (k : Int) + 1 := IntWalk.i64_in _ (by have := HBB.out; omega)
      have hw8 : wrap64 (R.base + 1 + (k : Int) + 1) = R.base + 1 + (k : Int) + 1 := IntWalk.wrap64_in _ (by have := HBB.out; omega)
      by_cases hlt : k < 4
      · have hki : R.base + 1 + (k : Int) ≤ R.base + 4 := by omega
        have HGM : Hid (gmL R F T (k + 1) = gmL R F T k ++ (if gmeet R F T (R.base + 1 + (k : Int)) then [R.base + 1 + (k : Int)] else [])) := hid rfl
        have HGD : Hid (gmeet R F T (R.base + 1 + (k : Int)) = (decide (0 ≤ plcI R.sp (R.base + 1 + (k : Int))) && (match R.sp[(plcI R.sp (R.base + 1 + (k : Int))).toNat]? with | some o => rmeetB F T o.f (toL R.sp (plcI R.sp (R.base + 1 + (k : Int))).toNat) | none => false))) := hid rfl
        have CA := hid (at_any (R := R) (b := b) (d := d) (HR.out.old HBw.out) (R.base + 1 + (k : Int)))
        have hpc := plc_cases R.sp (R.base + 1 + (k : Int))
        generalize plcI R.sp (R.base + 1 + (k : Int)) = pv at *
        generalize gmeet R F T (R.base + 1 + (k : Int)) = gb at *
        have HPC := hid hpc
        clear hpc
        go_upto_region 11 with (first | (go_at_call 118; refine CA.out.mono ?_; rintro en w4 ⟨rfl, hb4⟩; have HX4 := hid (HBr.out.trans (hb4.mono HBr.out.size)); have HO4 := hid (own_old HOr.out hb4); clear hb4 q0 q1 q2 q3 q4 CA))
        rcases HPC.out with rfl | ⟨k9, o, rfl, ho⟩
        · have hgb : gb = false := by have := HGD.out; simpa using this
          subst hgb
          refine wp_region_noPanic ?_
          refine wp_region_held_drew (S := fun V => Hid (Below w4.heap.size w4 V)) (by kernel_rfl) (hid (Below.drew (Below.refl _ _))) (fun hHeld => ?_)
          generalize w4.drew = Wd at *
          refine tkH 0 (.int .i64 (-1)) rfl (by kernel_rfl) (fun _ _ _ => False.elim) hHeld (Or.inl ⟨by rfl, fun W9 hW => by clear hHeld hW; simp only [jA, jB, jC]; go_simp⟩) ?_
          try simp only [Act.put, jA, jB, jC, jD, jE, jF]
          refine tkH 1 (.bool false) rfl (by kernel_rfl) (fun _ _ _ => False.elim) hHeld (Or.inl ⟨by rfl, fun W9 hW => by clear hHeld hW; simp only [jA, jB, jC]; go_simp⟩) ?_
          try simp only [Act.put, jA, jB, jC, jD, jE, jF]
          refine tkH 2 (.bool false) rfl (by kernel_rfl) (fun _ _ _ => False.elim) hHeld (Or.inl ⟨by rfl, fun W9 hW => by clear hHeld hW; simp only [jA, jB, jC]; go_simp⟩) ?_
          try simp only [Act.put, jA, jB, jC, jD, jE, jF]
          refine tkH 3 (undef) rfl (by kernel_rfl) (fun _ _ _ => False.elim) hHeld (Or.inr ⟨by rfl, by rfl⟩) ?_
          try simp only [Act.put, jA, jB, jC, jD, jE, jF]
          refine tkH 4 (undef) rfl (by kernel_rfl) (fun _ _ _ => False.elim) hHeld (Or.inr ⟨by rfl, by rfl⟩) ?_
          try simp only [Act.put, jA, jB, jC, jD, jE, jF]
          refine tkH 5 (undef) rfl (by kernel_rfl) (fun _ _ _ => False.elim) hHeld (Or.inr ⟨by rfl, by rfl⟩) ?_
          try simp only [Act.put, jA, jB, jC, jD, jE, jF]
          refine rdH 6 (by kernel_rfl) rfl fun K hK => ?_
          rw [if_neg (by intro h; exact absurd (show false = true from h) (by decide))]
          refine hK.out _ _ hHeld (fun hHeld => ?_)
          clear hK K
          try simp only [Act.put, jA, jB, jC, jD, jE, jF]
          refine rdH 7 (by kernel_rfl) rfl fun K hK => ?_
          rw [if_neg (by intro h; exact absurd (show false = true from h) (by decide))]
          refine hK.out _ _ hHeld (fun hHeld => ?_)
          clear hK K
          try simp only [Act.put, jA, jB, jC, jD, jE, jF]
          refine tkH 8 (.bool false) rfl (by kernel_rfl) (fun _ _ _ => False.elim) hHeld (Or.inl ⟨by rfl, fun W9 hW => by clear hHeld hW; simp only [jA, jB, jC]; go_simp⟩) ?_
          try simp only [Act.put, jA, jB, jC, jD, jE, jF]
          have HX9 := hid (HX4.out.trans (hHeld.out.mono HX4.out.size))
          have HO9 := hid (own_old HO4.out hHeld.out)
          refine wpAnyH_done (by kernel_rfl) (NoPanic.normal ?_) _
          clear hHeld
          go_wp2_with fail
          go_roundw
          · refine ⟨k + 1, by omega, by congr 1; omega, ?_, HX9⟩
            rw [HGM.out]
            simpa using HO9
          · have := HBB.out; simp [intOf]; omega
        · have hk0 : (0 : Int) ≤ (k9 : Int) := by omega
          have e9 : ((k9 : Int)).toNat = k9 := by omega
          have hgd : rmeetB F T o.f (toL R.sp k9) = gb := by have := HGD.out; rw [e9, ho] at this; simpa using this.symm
          have HGB := hid hgd
          have HO9 := hid ho
          clear hgd ho e9
          refine wp_region_noPanic ?_
          refine wp_region_held_drew (S := fun V => Hid (Below w4.heap.size w4 V)) (by kernel_rfl) (hid (Below.drew (Below.refl _ _))) (fun hHeld => ?_)
          generalize w4.drew = Wd at *
          refine tkH 0 (.int .i64 (k9 : Int)) rfl (by kernel_rfl) (fun _ _ _ => False.elim) hHeld (Or.inl ⟨by rfl, fun W9 hW => by clear hHeld hW; simp only [jA, jB, jC]; go_simp⟩) ?_
          try simp only [Act.put, jA, jB, jC, jD, jE, jF]
          refine tkH 1 (.bool true) rfl (by kernel_rfl) (fun _ _ _ => False.elim) hHeld (Or.inl ⟨by rfl, fun W9 hW => by clear hHeld hW; simp only [jA, jB, jC]; go_simp⟩) ?_
          try simp only [Act.put, jA, jB, jC, jD, jE, jF]
          refine tkH 2 (.bool true) rfl (by kernel_rfl) (fun _ _ _ => False.elim) hHeld (Or.inl ⟨by rfl, fun W9 hW => by clear hHeld hW; simp only [jA, jB, jC]; go_simp⟩) ?_
          try simp only [Act.put, jA, jB, jC, jD, jE, jF]
          refine tkH 3 (.agg #[.slice a1 F.length c1, .slice a2 T.length c2]) rfl (by kernel_rfl) (fun _ _ _ => False.elim) hHeld (Or.inl ⟨by rfl, fun W9 hW => by obtain ⟨p0, p1⟩ := HKS.out _ (below_step HX4.out hW.out); clear hHeld hW; simp only [jA, jB, jC]; go_simp⟩) ?_
          try simp only [Act.put, jA, jB, jC, jD, jE, jF]
          refine tkH 4 (.agg #[.int .i64 R.ep, .int .i64 R.base, .slice ao R.sp.length c, .int .i64 R.mv, .slice b R.cut.length d]) rfl (by kernel_rfl) (fun _ _ _ => False.elim) hHeld (Or.inl ⟨by rfl, fun W9 hW => by obtain ⟨q0, q1, q2, q3, q4⟩ := HKR.out _ (below_step HX4.out hW.out); clear hHeld hW; simp only [jA, jB, jC]; go_simp⟩) ?_
          try simp only [Act.put, jA, jB, jC, jD, jE, jF]
          refine tkH 5 (.int .i64 (k9 : Int)) rfl (by kernel_rfl) (fun _ _ _ => False.elim) hHeld (Or.inl ⟨by rfl, fun W9 hW => by clear hHeld hW; simp only [jA, jB, jC]; go_simp⟩) ?_
          try simp only [Act.put, jA, jB, jC, jD, jE, jF]
          refine rdH 6 (by kernel_rfl) rfl fun K hK => ?_
          rw [if_pos (by rfl)]
          go_simp
          have CQ := hid (rspan_any (b := b) (d := d) (HR.out.old (below_step HB2.out (HX4.out.trans (hHeld.out.mono HX4.out.size)))) HLL.out HO9.out)
          go_wp2_with (first | (go_at_call 119; refine CQ.out.mono ?_; rintro en w7 ⟨a5, c5, a6, c6, rfl, hf, ht, hbE⟩; have HBE := hid (below_step hHeld.out hbE); have HFm := hid hf; have HTm := hid ht; clear hf ht))
          clear CQ hHeld
          refine hK.out _ _ HBE (fun hHeld => ?_)
          clear hK K HBE
          try simp only [Act.put, jA, jB, jC, jD, jE, jF]
          refine rdH 7 (by kernel_rfl) rfl fun K hK => ?_
          rw [if_pos (by rfl)]
          go_simp
          have CQ := hid (rmeet_any (H1.out.old (below_step HB2.out (HX4.out.trans (hHeld.out.mono HX4.out.size)))) (H2.out.old (below_step HB2.out (HX4.out.trans (hHeld.out.mono HX4.out.size)))) HFm.out HTm.out)
          go_wp2_with (first | (go_at_call 127; refine CQ.out.mono ?_; rintro en w8 ⟨rfl, hbE⟩; have HBE := hid (below_step hHeld.out hbE); ))
          clear CQ hHeld
          refine hK.out _ _ HBE (fun hHeld => ?_)
          clear hK K HBE
          try simp only [Act.put, jA, jB, jC, jD, jE, jF]
          rw [HGB.out]
          refine tkH 8 (.bool gb) rfl (by kernel_rfl) (fun _ _ _ => False.elim) hHeld (Or.inl ⟨by rfl, fun W9 hW => by clear hHeld hW; simp only [jA, jB, jC]; go_simp⟩) ?_
          try simp only [Act.put, jA, jB, jC, jD, jE, jF]
          have HX9 := hid (HX4.out.trans (hHeld.out.mono HX4.out.size))
          have HO9b := hid (own_old HO4.out hHeld.out)
          refine wpAnyH_done (by kernel_rfl) (NoPanic.normal ?_) _
          clear hHeld
          cases gb with
          | false =>
            go_wp2_with fail
            go_roundw
            · refine ⟨k + 1, by omega, by congr 1; omega, ?_, HX9⟩
              rw [HGM.out]
              simpa using HO9b
            · have := HBB.out; simp [intOf]; omega
          | true =>
            go_upto_region 12 with fail
            have HY := hid (one_int (heap_alloc_new w8 (.cells #[.int .i64 (R.base + 1 + (k : Int))] 3)))
            have HO5 := hid (own_old HO9b.out ((Below.refl w8.heap.size w8).alloc (Nat.le_refl _) (.cells #[.int .i64 (R.base + 1 + (k : Int))] 3)))
            have HB5 := hid (HX9.out.alloc HX9.out.size (.cells #[.int .i64 (R.base + 1 + (k : Int))] 3))
            have HLb : Hid ((([] : List Int) ++ gmL R F T k).length ≤ 1000) := hid (by have := gm_len R F T k; rw [List.length_append]; rw [List.length_nil]; omega)
            go_wp2_with (first | (at_builtin; refine wp_iapp (by rfl) _ _ rfl (by rfl) HO5.out (by rfl) HY.out HLb.out HB5.out.size ?_; intro v6 w6 ho6 hb6; have HO6 := hid ho6; have HB6 := hid (HB5.out.trans hb6); clear ho6 hb6))
            go_roundw
            · refine ⟨k + 1, by omega, by congr 1; omega, ?_, HB6⟩
              rw [HGM.out, if_pos rfl, ← List.append_assoc]
              exact HO6
            · have := HBB.out; simp [intOf]; omega
      · obtain rfl : k = 4 := by omega
        have hki : ¬ R.base + 1 + ((4 : Nat) : Int) ≤ R.base + 4 := by omega
        have hki2 : ¬ R.base + 1 + 4 ≤ R.base + 4 := by omega
        go_wp2_with fail
        go_ret
        exact ⟨_, rfl, by rw [HOL.out]; exact ownsRow_base HOr.out HB2.out.size, HBw.out⟩
  | true =>
    rw [hm0] at CM HOL
    go_wp2_with (first | (go_at_call 127; refine CM.out.mono ?_; rintro en w3 ⟨rfl, hb3⟩; have HX3 := hid (HXb.out.trans (hb3.mono HXb.out.size)); clear hb3 p0 p1; obtain ⟨q0, q1, q2, q3, q4⟩ := HKR.out _ HX3.out))
    clear q0 q1 q2 q3 q4
    go_loopw [6, 5] (fun g v wr => ∃ k : Nat, k ≤ nb ∧ g = .int .i64 ((k : Int) + 1) ∧ Hid (wr.ownsRow w2.heap.size 3 1 v (basesL k).length ((basesL k).map iv)) ∧ Hid (Below w2.heap.size w2 wr))
      (fun g _ _ => 6 - (intOf g).toNat)
    case atStart => exact ⟨0, by omega, rfl, own_old HN0.out HX3.out, HX3⟩
    case round =>
      obtain ⟨k, hk, rfl, HOr, HBr⟩ := hrel
      obtain ⟨q0, q1, q2, q3, q4⟩ := HKR.out _ HBr.out
      by_cases hlt : k < nb
      · have hki : (k : Int) + 1 ≤ R.base := by have := HNB.out; omega
        go_upto_region 6 with fail
        clear q0 q1 q2 q3 q4
        have HY := hid (one_int (heap_alloc_new wr (.cells #[.int .i64 ((k : Int) + 1)] 3)))
        have HO5 := hid (own_old HOr.out ((Below.refl wr.heap.size wr).alloc (Nat.le_refl _) (.cells #[.int .i64 ((k : Int) + 1)] 3)))
        have HB5 := hid (HBr.out.alloc HBr.out.size (.cells #[.int .i64 ((k : Int) + 1)] 3))
        have HLb : Hid ((basesL k).length ≤ 1000) := hid (by rw [bases_len]; omega)
        go_wp2_with (first | (at_builtin; refine wp_iapp (by rfl) _ _ rfl (by rfl) HO5.out (by rfl) HY.out HLb.out HB5.out.size ?_; intro v6 w6 ho6 hb6; have HO6 := hid ho6; have HB6 := hid (HB5.out.trans hb6); clear ho6 hb6))
        go_roundw
        · exact ⟨k + 1, by omega, by go_num, HO6, HB6⟩
        · simp [intOf]; omega
      · obtain rfl : nb = k := by omega
        have hki : ¬ (nb : Int) + 1 ≤ R.base := by have := HNB.out; omega
        have hw1 : IntKind.i64.wrap (R.base + 1) = R.base + 1 := IntWalk.i64_in _ (by have := HBB.out; omega)
        have hw3 : wrap64 (R.base + 1) = R.base + 1 := IntWalk.wrap64_in _ (by have := HBB.out; omega)
        go_wp2_with fail
        clear q0 q1 q2 q3 q4
        go_loopw [7, 5] (fun g v wr => ∃ k : Nat, k ≤ 4 ∧ g = .int .i64 (R.base + 1 + (k : Int)) ∧ Hid (wr.ownsRow w2.heap.size 3 1 v (basesL nb ++ gmL R F T k).length ((basesL nb ++ gmL R F T k).map iv)) ∧ Hid (Below w2.heap.size w2 wr))
          (fun g _ _ => 20 - (intOf g).toNat)
        case atStart => exact ⟨0, by omega, by simp, hid (by have := HOr.out; simpa [gmL] using this), HBr⟩
        case round =>
          obtain ⟨k, hk, rfl, HOr, HBr⟩ := hrel
          have HBw := hid (below_step HB2.out HBr.out)
          obtain ⟨q0, q1, q2, q3, q4⟩ := HKR.out _ HBr.out
          have hw5 : IntKind.i64.wrap (R.base + 4) = R.base + 4 := IntWalk.i64_in _ (by have := HBB.out; omega)
          have hw6 : wrap64 (R.base + 4) = R.base + 4 := IntWalk.wrap64_in _ (by have := HBB.out; omega)
          have hw7 : IntKind.i64.wrap (R.base + 1 + (k : Int) + 1) = R.base + 1 + (k : Int) + 1 := IntWalk.i64_in _ (by have := HBB.out; omega)
          have hw8 : wrap64 (R.base + 1 + (k : Int) + 1) = R.base + 1 + (k : Int) + 1 := IntWalk.wrap64_in _ (by have := HBB.out; omega)
          by_cases hlt : k < 4
          · have hki : R.base + 1 + (k : Int) ≤ R.base + 4 := by omega
            have HGM : Hid (gmL R F T (k + 1) = gmL R F T k ++ (if gmeet R F T (R.base + 1 + (k : Int)) then [R.base + 1 + (k : Int)] else [])) := hid rfl
            have HGD : Hid (gmeet R F T (R.base + 1 + (k : Int)) = (decide (0 ≤ plcI R.sp (R.base + 1 + (k : Int))) && (match R.sp[(plcI R.sp (R.base + 1 + (k : Int))).toNat]? with | some o => rmeetB F T o.f (toL R.sp (plcI R.sp (R.base + 1 + (k : Int))).toNat) | none => false))) := hid rfl
            have CA := hid (at_any (R := R) (b := b) (d := d) (HR.out.old HBw.out) (R.base + 1 + (k : Int)))
            have hpc := plc_cases R.sp (R.base + 1 + (k : Int))
            generalize plcI R.sp (R.base + 1 + (k : Int)) = pv at *
            generalize gmeet R F T (R.base + 1 + (k : Int)) = gb at *
            have HPC := hid hpc
            clear hpc
            go_upto_region 11 with (first | (go_at_call 118; refine CA.out.mono ?_; rintro en w4 ⟨rfl, hb4⟩; have HX4 := hid (HBr.out.trans (hb4.mono HBr.out.size)); have HO4 := hid (own_old HOr.out hb4); clear hb4 q0 q1 q2 q3 q4 CA))
            rcases HPC.out with rfl | ⟨k9, o, rfl, ho⟩
            · have hgb : gb = false := by have := HGD.out; simpa using this
              subst hgb
              refine wp_region_noPanic ?_
              refine wp_region_held_drew (S := fun V => Hid (Below w4.heap.size w4 V)) (by kernel_rfl) (hid (Below.drew (Below.refl _ _))) (fun hHeld => ?_)
              generalize w4.drew = Wd at *
              refine tkH 0 (.int .i64 (-1)) rfl (by kernel_rfl) (fun _ _ _ => False.elim) hHeld (Or.inl ⟨by rfl, fun W9 hW => by clear hHeld hW; simp only [jA, jB, jC]; go_simp⟩) ?_
              try simp only [Act.put, jA, jB, jC, jD, jE, jF]
              refine tkH 1 (.bool false) rfl (by kernel_rfl) (fun _ _ _ => False.elim) hHeld (Or.inl ⟨by rfl, fun W9 hW => by clear hHeld hW; simp only [jA, jB, jC]; go_simp⟩) ?_
              try simp only [Act.put, jA, jB, jC, jD, jE, jF]
              refine tkH 2 (.bool false) rfl (by kernel_rfl) (fun _ _ _ => False.elim) hHeld (Or.inl ⟨by rfl, fun W9 hW => by clear hHeld hW; simp only [jA, jB, jC]; go_simp⟩) ?_
              try simp only [Act.put, jA, jB, jC, jD, jE, jF]
              refine tkH 3 (undef) rfl (by kernel_rfl) (fun _ _ _ => False.elim) hHeld (Or.inr ⟨by rfl, by rfl⟩) ?_
              try simp only [Act.put, jA, jB, jC, jD, jE, jF]
              refine tkH 4 (undef) rfl (by kernel_rfl) (fun _ _ _ => False.elim) hHeld (Or.inr ⟨by rfl, by rfl⟩) ?_
              try simp only [Act.put, jA, jB, jC, jD, jE, jF]
              refine tkH 5 (undef) rfl (by kernel_rfl) (fun _ _ _ => False.elim) hHeld (Or.inr ⟨by rfl, by rfl⟩) ?_
              try simp only [Act.put, jA, jB, jC, jD, jE, jF]
              refine rdH 6 (by kernel_rfl) rfl fun K hK => ?_
              rw [if_neg (by intro h; exact absurd (show false = true from h) (by decide))]
              refine hK.out _ _ hHeld (fun hHeld => ?_)
              clear hK K
              try simp only [Act.put, jA, jB, jC, jD, jE, jF]
              refine rdH 7 (by kernel_rfl) rfl fun K hK => ?_
              rw [if_neg (by intro h; exact absurd (show false = true from h) (by decide))]
              refine hK.out _ _ hHeld (fun hHeld => ?_)
              clear hK K
              try simp only [Act.put, jA, jB, jC, jD, jE, jF]
              refine tkH 8 (.bool false) rfl (by kernel_rfl) (fun _ _ _ => False.elim) hHeld (Or.inl ⟨by rfl, fun W9 hW => by clear hHeld hW; simp only [jA, jB, jC]; go_simp⟩) ?_
              try simp only [Act.put, jA, jB, jC, jD, jE, jF]
              have HX9 := hid (HX4.out.trans (hHeld.out.mono HX4.out.size))
              have HO9 := hid (own_old HO4.out hHeld.out)
              refine wpAnyH_done (by kernel_rfl) (NoPanic.normal ?_) _
              clear hHeld
              go_wp2_with fail
              go_roundw
              · refine ⟨k + 1, by omega, by congr 1; omega, ?_, HX9⟩
                rw [HGM.out]
                simpa using HO9
              · have := HBB.out; simp [intOf]; omega
            · have hk0 : (0 : Int) ≤ (k9 : Int) := by omega
              have e9 : ((k9 : Int)).toNat = k9 := by omega
              have hgd : rmeetB F T o.f (toL R.sp k9) = gb := by have := HGD.out; rw [e9, ho] at this; simpa using this.symm
              have HGB := hid hgd
              have HO9 := hid ho
              clear hgd ho e9
              refine wp_region_noPanic ?_
              refine wp_region_held_drew (S := fun V => Hid (Below w4.heap.size w4 V)) (by kernel_rfl) (hid (Below.drew (Below.refl _ _))) (fun hHeld => ?_)
              generalize w4.drew = Wd at *
              refine tkH 0 (.int .i64 (k9 : Int)) rfl (by kernel_rfl) (fun _ _ _ => False.elim) hHeld (Or.inl ⟨by rfl, fun W9 hW => by clear hHeld hW; simp only [jA, jB, jC]; go_simp⟩) ?_
              try simp only [Act.put, jA, jB, jC, jD, jE, jF]
              refine tkH 1 (.bool true) rfl (by kernel_rfl) (fun _ _ _ => False.elim) hHeld (Or.inl ⟨by rfl, fun W9 hW => by clear hHeld hW; simp only [jA, jB, jC]; go_simp⟩) ?_
              try simp only [Act.put, jA, jB, jC, jD, jE, jF]
              refine tkH 2 (.bool true) rfl (by kernel_rfl) (fun _ _ _ => False.elim) hHeld (Or.inl ⟨by rfl, fun W9 hW => by clear hHeld hW; simp only [jA, jB, jC]; go_simp⟩) ?_
              try simp only [Act.put, jA, jB, jC, jD, jE, jF]
              refine tkH 3 (.agg #[.slice a1 F.length c1, .slice a2 T.length c2]) rfl (by kernel_rfl) (fun _ _ _ => False.elim) hHeld (Or.inl ⟨by rfl, fun W9 hW => by obtain ⟨p0, p1⟩ := HKS.out _ (below_step HX4.out hW.out); clear hHeld hW; simp only [jA, jB, jC]; go_simp⟩) ?_
              try simp only [Act.put, jA, jB, jC, jD, jE, jF]
              refine tkH 4 (.agg #[.int .i64 R.ep, .int .i64 R.base, .slice ao R.sp.length c, .int .i64 R.mv, .slice b R.cut.length d]) rfl (by kernel_rfl) (fun _ _ _ => False.elim) hHeld (Or.inl ⟨by rfl, fun W9 hW => by obtain ⟨q0, q1, q2, q3, q4⟩ := HKR.out _ (below_step HX4.out hW.out); clear hHeld hW; simp only [jA, jB, jC]; go_simp⟩) ?_
              try simp only [Act.put, jA, jB, jC, jD, jE, jF]
              refine tkH 5 (.int .i64 (k9 : Int)) rfl (by kernel_rfl) (fun _ _ _ => False.elim) hHeld (Or.inl ⟨by rfl, fun W9 hW => by clear hHeld hW; simp only [jA, jB, jC]; go_simp⟩) ?_
              try simp only [Act.put, jA, jB, jC, jD, jE, jF]
              refine rdH 6 (by kernel_rfl) rfl fun K hK => ?_
              rw [if_pos (by rfl)]
              go_simp
              have CQ := hid (rspan_any (b := b) (d := d) (HR.out.old (below_step HB2.out (HX4.out.trans (hHeld.out.mono HX4.out.size)))) HLL.out HO9.out)
              go_wp2_with (first | (go_at_call 119; refine CQ.out.mono ?_; rintro en w7 ⟨a5, c5, a6, c6, rfl, hf, ht, hbE⟩; have HBE := hid (below_step hHeld.out hbE); have HFm := hid hf; have HTm := hid ht; clear hf ht))
              clear CQ hHeld
              refine hK.out _ _ HBE (fun hHeld => ?_)
              clear hK K HBE
              try simp only [Act.put, jA, jB, jC, jD, jE, jF]
              refine rdH 7 (by kernel_rfl) rfl fun K hK => ?_
              rw [if_pos (by rfl)]
              go_simp
              have CQ := hid (rmeet_any (H1.out.old (below_step HB2.out (HX4.out.trans (hHeld.out.mono HX4.out.size)))) (H2.out.old (below_step HB2.out (HX4.out.trans (hHeld.out.mono HX4.out.size)))) HFm.out HTm.out)
              go_wp2_with (first | (go_at_call 127; refine CQ.out.mono ?_; rintro en w8 ⟨rfl, hbE⟩; have HBE := hid (below_step hHeld.out hbE); ))
              clear CQ hHeld
              refine hK.out _ _ HBE (fun hHeld => ?_)
              clear hK K HBE
              try simp only [Act.put, jA, jB, jC, jD, jE, jF]
              rw [HGB.out]
              refine tkH 8 (.bool gb) rfl (by kernel_rfl) (fun _ _ _ => False.elim) hHeld (Or.inl ⟨by rfl, fun W9 hW => by clear hHeld hW; simp only [jA, jB, jC]; go_simp⟩) ?_
              try simp only [Act.put, jA, jB, jC, jD, jE, jF]
              have HX9 := hid (HX4.out.trans (hHeld.out.mono HX4.out.size))
              have HO9b := hid (own_old HO4.out hHeld.out)
              refine wpAnyH_done (by kernel_rfl) (NoPanic.normal ?_) _
              clear hHeld
              cases gb with
              | false =>
                go_wp2_with fail
                go_roundw
                · refine ⟨k + 1, by omega, by congr 1; omega, ?_, HX9⟩
                  rw [HGM.out]
                  simpa using HO9b
                · have := HBB.out; simp [intOf]; omega
              | true =>
                go_upto_region 12 with fail
                have HY := hid (one_int (heap_alloc_new w8 (.cells #[.int .i64 (R.base + 1 + (k : Int))] 3)))
                have HO5 := hid (own_old HO9b.out ((Below.refl w8.heap.size w8).alloc (Nat.le_refl _) (.cells #[.int .i64 (R.base + 1 + (k : Int))] 3)))
                have HB5 := hid (HX9.out.alloc HX9.out.size (.cells #[.int .i64 (R.base + 1 + (k : Int))] 3))
                have HLb : Hid ((basesL nb ++ gmL R F T k).length ≤ 1000) := hid (by have := gm_len R F T k; rw [List.length_append]; rw [bases_len]; omega)
                go_wp2_with (first | (at_builtin; refine wp_iapp (by rfl) _ _ rfl (by rfl) HO5.out (by rfl) HY.out HLb.out HB5.out.size ?_; intro v6 w6 ho6 hb6; have HO6 := hid ho6; have HB6 := hid (HB5.out.trans hb6); clear ho6 hb6))
                go_roundw
                · refine ⟨k + 1, by omega, by congr 1; omega, ?_, HB6⟩
                  rw [HGM.out, if_pos rfl, ← List.append_assoc]
                  exact HO6
                · have := HBB.out; simp [intOf]; omega
          · obtain rfl : k = 4 := by omega
            have hki : ¬ R.base + 1 + ((4 : Nat) : Int) ≤ R.base + 4 := by omega
            have hki2 : ¬ R.base + 1 + 4 ≤ R.base + 4 := by omega
            go_wp2_with fail
            go_ret
            exact ⟨_, rfl, by rw [HOL.out]; exact ownsRow_base HOr.out HB2.out.size, HBw.out⟩
end Go.Proofs.Ytafcbelkhhjcoaa

set_option linter.unusedVariables false
set_option linter.unusedSimpArgs false
set_option maxRecDepth 100000
namespace Go.Proofs.Ytafcbelkhhjcoaa
open Go.RowKit Go.Deep

theorem maxL_comm (a b : List UInt8) : maxL a b = maxL b a := by
  unfold maxL
  cases h : Op.bytesLess b a with
  | true => rw [less_asymm h]; rfl
  | false =>
    cases h2 : Op.bytesLess a b with
    | true => rfl
    | false => exact less_tot h h2
theorem rmeet_comm (F1 T1 F2 T2 : List UInt8) : rmeetB F1 T1 F2 T2 = rmeetB F2 T2 F1 T1 := by
  unfold rmeetB; rw [maxL_comm F1 F2, Bool.and_comm]
theorem keep1 (w : World) (q i : Nat) (u : Value) : Keep (· = q) w (w.setCell ⟨q, i, none⟩ u) := Keep.set (X := (· = q)) w ⟨q, i, none⟩ u rfl
theorem kp_below {X : Nat → Prop} {w w' : World} (h : Below w.heap.size w w') : Keep X w w' := ⟨h.os, h.tape, h.output, h.size, fun k hk _ => h.block k hk⟩
theorem own_parts {w : World} {R : Rou} {ao b : Option Addr} {c d : Nat} (hr : OwsN w (.slice ao R.sp.length c) R.sp) (hL : ∀ o ∈ R.sp, o.f.length ≤ 1000) {z : Int} {F2 T2 : List UInt8} (hA : AllA R z F2 T2) :
    ∃ FO TO, (∀ V, Below w.heap.size w V → Calls Try.prog 59 #[.agg #[.int .i64 R.ep, .int .i64 R.base, .slice ao R.sp.length c, .int .i64 R.mv, .slice b R.cut.length d], .int .i64 z] V (SpA V FO TO)) ∧ (isB R z = true → F2 = [114] ∧ T2 = [115]) ∧ (isB R z = false → F2 = FO ∧ T2 = TO) ∧ FO.length ≤ 1000 := by
  rcases hA with ⟨hb, rfl, rfl, hp⟩ | ⟨hb, hp, rfl, rfl⟩ | ⟨k, o, hb, hp, hk, rfl, rfl⟩
  · exact ⟨[], [], fun V hV => rowned_none (hr.old hV) hp, fun _ => ⟨rfl, rfl⟩, (fun e => by rw [hb] at e; cases e), by simp⟩
  · exact ⟨[], [], fun V hV => rowned_none (hr.old hV) hp, (fun e => by rw [hb] at e; cases e), fun _ => ⟨rfl, rfl⟩, by simp⟩
  · exact ⟨_, _, fun V hV => rowned_some (hr.old hV) (fun o ho => by have := hL o ho; omega) hp hk, (fun e => by rw [hb] at e; cases e), fun _ => ⟨rfl, rfl⟩, hL o (List.mem_of_getElem? hk)⟩

set_option maxHeartbeats 16000000 in
theorem rpart_any {w : World} {R : Rou} {ao b : Option Addr} {c d : Nat} (hbf : bfB R.base = true) (hr : OwsN w (.slice ao R.sp.length c) R.sp) (hL : ∀ o ∈ R.sp, o.f.length ≤ 1000) {a1 a2 : Option Addr} {c1 c2 : Nat} {F1 T1 : List UInt8} (h1 : Rd w (.slice a1 F1.length c1) F1) (h2 : Rd w (.slice a2 T1.length c2) T1)
    (hl1 : F1.length ≤ 140737488355328) (hl2 : T1.length ≤ 140737488355328) {z : Int} {F2 T2 : List UInt8} (hA : AllA R z F2 T2) :
    Calls Try.prog 47 #[.agg #[.int .i64 R.ep, .int .i64 R.base, .slice ao R.sp.length c, .int .i64 R.mv, .slice b R.cut.length d], .int .i64 z, .agg #[.slice a1 F1.length c1, .slice a2 T1.length c2]] w
      (PtA w (if Op.bytesLess (bothF F1 F2) (bothT T1 T2) then bothF F1 F2 else []) (if Op.bytesLess (bothF F1 F2) (bothT T1 T2) then bothT T1 T2 else []) (Op.bytesLess (bothF F1 F2) (bothT T1 T2))) := by
  obtain ⟨FO, TO, co, ho1, ho2, -⟩ := own_parts (b := b) (d := d) hr hL hA
  have CO := hid co
  have HO1 := hid ho1
  have HO2 := hid ho2
  have H1 := hid h1
  have H2 := hid h2
  have HL := hid (And.intro hl1 hl2)
  have HIB : Hid (isB R z = (decide (1 ≤ z) && decide (z ≤ R.base))) := hid (by unfold isB; rw [hbf]; rfl)
  have n1 : T1 = [] ↔ T1.length = 0 := List.length_eq_zero_iff.symm
  have HN1 := hid n1
  clear co ho1 ho2 h1 h2 hl1 hl2 hA hr hL hbf n1
  generalize hB : Op.bytesLess (bothF F1 F2) (bothT T1 T2) = B
  have HBB := hid hB
  clear hB
  go_enter Try.func47, Try.ntmps47
  go_upto_region 1 with fail
  have hb1 := (Below.refl w.heap.size w).alloc (Nat.le_refl _) (.cells #[.int .i64 R.ep, .int .i64 R.base, .slice ao R.sp.length c, .int .i64 R.mv, .slice b R.cut.length d] 64)
  have hz1 := heap_alloc_new w (.cells #[.int .i64 R.ep, .int .i64 R.base, .slice ao R.sp.length c, .int .i64 R.mv, .slice b R.cut.length d] 64)
  have hs1 : (w.alloc (.cells #[.int .i64 R.ep, .int .i64 R.base, .slice ao R.sp.length c, .int .i64 R.mv, .slice b R.cut.length d] 64)).heap.size = w.heap.size + 1 := by simp
  generalize w.alloc (.cells #[.int .i64 R.ep, .int .i64 R.base, .slice ao R.sp.length c, .int .i64 R.mv, .slice b R.cut.length d] 64) = w1 at *
  have hb2 := (Below.refl w1.heap.size w1).alloc (Nat.le_refl _) (.cells #[.slice a1 F1.length c1, .slice a2 T1.length c2] 66)
  have hz2 := heap_alloc_new w1 (.cells #[.slice a1 F1.length c1, .slice a2 T1.length c2] 66)
  have hs2 : (w1.alloc (.cells #[.slice a1 F1.length c1, .slice a2 T1.length c2] 66)).heap.size = w1.heap.size + 1 := by simp
  generalize w1.alloc (.cells #[.slice a1 F1.length c1, .slice a2 T1.length c2] 66) = w2 at *
  have hb3 := (Below.refl w2.heap.size w2).alloc (Nat.le_refl _) (.cells #[.slice none 0 0, .slice none 0 0] 66)
  have hz3 := heap_alloc_new w2 (.cells #[.slice none 0 0, .slice none 0 0] 66)
  have hs3 : (w2.alloc (.cells #[.slice none 0 0, .slice none 0 0] 66)).heap.size = w2.heap.size + 1 := by simp
  generalize w2.alloc (.cells #[.slice none 0 0, .slice none 0 0] 66) = w3 at *
  have HB3 := hid (below_step (below_step hb1 hb2) hb3)
  have HR3 := hid ((hb3.block _ (lt_of_block ((hb2.block _ (lt_of_block hz1)).trans hz1))).trans ((hb2.block _ (lt_of_block hz1)).trans hz1))
  have HS3 := hid ((hb3.block _ (lt_of_block hz2)).trans hz2)
  have HQ3 := hid hz3
  rw [hs1] at HS3
  rw [hs2, hs1] at HQ3
  have HSZ := hid (show w3.heap.size = w.heap.size + 1 + 1 + 1 by omega)
  clear hb1 hz1 hs1 hb2 hz2 hs2 hb3 hz3 hs3
  have z0 := cell_in HR3.out 0 _ rfl
  have z1 := cell_in HR3.out 1 _ rfl
  have z2 := cell_in HR3.out 2 _ rfl
  have z3 := cell_in HR3.out 3 _ rfl
  have z4 := cell_in HR3.out 4 _ rfl
  have s0 := cell_in HS3.out 0 _ rfl
  have s1 := cell_in HS3.out 1 _ rfl
  go_upto_region 2 with (first | (go_at_call 59; refine (CO.out _ HB3.out).mono ?_; rintro en w4 ⟨x1, y1, x2, y2, rfl, hf, ht, hb4⟩; have HX4 := hid hb4; have HF4 := hid hf; have HT4 := hid ht; clear hf ht hb4 z0 z1 z2 z3 z4 s0 s1))
  have hb5 := (Below.refl w4.heap.size w4).alloc (Nat.le_refl _) (.cells #[.slice x1 FO.length y1, .slice x2 TO.length y2] 66)
  have hz5 := heap_alloc_new w4 (.cells #[.slice x1 FO.length y1, .slice x2 TO.length y2] 66)
  generalize w4.alloc (.cells #[.slice x1 FO.length y1, .slice x2 TO.length y2] 66) = w5 at *
  have HX5 := hid (below_step HX4.out hb5)
  have HF5 := hid (HF4.out.old hb5)
  have HT5 := hid (HT4.out.old hb5)
  have HG5 := hid hz5
  have HR5 := hid ((HX5.out.block _ (lt_of_block HR3.out)).trans HR3.out)
  have HS5 := hid ((HX5.out.block _ (lt_of_block HS3.out)).trans HS3.out)
  have HQ5 := hid ((HX5.out.block _ (lt_of_block HQ3.out)).trans HQ3.out)
  have HB5 := hid (below_step HB3.out HX5.out)
  have HGL := hid (show w.heap.size + 1 + 1 < w4.heap.size from by have := HX4.out.size; have := HSZ.out; omega)
  clear hb5 hz5 HX4 HF4 HT4 HX5 CO
  generalize w4.heap.size = g at *
  have hgl := lt_of_block HG5.out
  have z0 := cell_in HR5.out 0 _ rfl
  have z1 := cell_in HR5.out 1 _ rfl
  have z2 := cell_in HR5.out 2 _ rfl
  have z3 := cell_in HR5.out 3 _ rfl
  have z4 := cell_in HR5.out 4 _ rfl
  go_cut [19] from 12 to 19 (fun s wx => s = .bool (isB R z) ∧ wx = w5)
  case first =>
    by_cases h1 : 1 ≤ z
    · by_cases h2 : z ≤ R.base
      · go_wp2_with fail
        go_meet
        exact ⟨by rw [HIB.out]; simp [h1, h2] <;> omega, rfl⟩
      · go_wp2_with fail
        go_meet
        exact ⟨by rw [HIB.out]; simp [h1, h2] <;> omega, rfl⟩
    · go_wp2_with fail
      go_meet
      exact ⟨by rw [HIB.out, decide_eq_false (show ¬ 1 ≤ z by omega)]; rfl, rfl⟩
  case rest =>
  obtain ⟨rfl, hwc⟩ := hcut
  rw [hwc]
  clear hwc
  generalize hq : isB R z = q at *
  have HQ9 := hid hq
  clear hq
  have g0 := cell_in HG5.out 0 _ rfl
  have fg0 := free_in HG5.out 0
  have g1 := cell_in HG5.out 1 _ rfl
  have fg1 := free_in HG5.out 1
  go_upto_if 19 with fail
  go_cut [] from 19 to 22 (fun wx => ∃ x1 y1 x2 y2, Hid (wx.heap[g]? = some (.cells #[.slice x1 F2.length y1, .slice x2 T2.length y2] 66 (0, 0))) ∧ Hid (Rd wx (.slice x1 F2.length y1) F2) ∧ Hid (Rd wx (.slice x2 T2.length y2) T2) ∧ Hid (Keep (· = g) w5 wx))
  case first =>
    cases q with
    | false =>
      obtain ⟨rfl, rfl⟩ := HO2.out rfl
      go_wp2_with fail
      go_meet
      exact ⟨x1, y1, x2, y2, HG5, HF5, HT5, hid (Keep.refl _ _)⟩
    | true =>
      obtain ⟨rfl, rfl⟩ := HO1.out rfl
      have G5 := hid hgl
      go_wp2_with fail
      have k6 := keep2 w5 g (.slice (some ⟨w5.heap.size, 0, none⟩) 1 1) (.slice (some ⟨w5.heap.size + 1, 0, none⟩) 1 1)
      have e6 := put_in (put_in HG5.out 0 (.slice (some ⟨w5.heap.size, 0, none⟩) 1 1)) 1 (.slice (some ⟨w5.heap.size + 1, 0, none⟩) 1 1)
      have s6 : ((w5.setCell ⟨g, 0, none⟩ (.slice (some ⟨w5.heap.size, 0, none⟩) 1 1)).setCell ⟨g, 1, none⟩ (.slice (some ⟨w5.heap.size + 1, 0, none⟩) 1 1)).heap.size = w5.heap.size := by simp
      generalize (w5.setCell ⟨g, 0, none⟩ (.slice (some ⟨w5.heap.size, 0, none⟩) 1 1)).setCell ⟨g, 1, none⟩ (.slice (some ⟨w5.heap.size + 1, 0, none⟩) 1 1) = w6 at *
      have e7 := heap_alloc_new w6 (.cells #[.int .u8 114] 5)
      have b7 := (Below.refl w6.heap.size w6).alloc (Nat.le_refl _) (.cells #[.int .u8 114] 5)
      have s7 : (w6.alloc (.cells #[.int .u8 114] 5)).heap.size = w5.heap.size + 1 := by rw [← s6]; simp
      generalize w6.alloc (.cells #[.int .u8 114] 5) = w7 at *
      have e8 := heap_alloc_new w7 (.cells #[.int .u8 115] 5)
      have b8 := (Below.refl w7.heap.size w7).alloc (Nat.le_refl _) (.cells #[.int .u8 115] 5)
      generalize w7.alloc (.cells #[.int .u8 115] 5) = w8 at *
      rw [s6] at e7
      rw [s7] at e8
      have r7 := zrd_one (c := 114) ((b8.block _ (lt_of_block e7)).trans e7)
      have r8 := zrd_one (c := 115) e8
      have e9 := (b8.block _ (lt_of_block ((b7.block _ (lt_of_block e6)).trans e6))).trans ((b7.block _ (lt_of_block e6)).trans e6)
      have k9 : Keep (· = g) w5 w8 := (k6.trans (kp_below b7)).trans (kp_below b8)
      go_meet
      exact ⟨some ⟨w5.heap.size, 0, none⟩, 1, some ⟨w5.heap.size + 1, 0, none⟩, 1, hid e9, hid r7, hid r8, hid k9⟩
  case rest =>
  obtain ⟨x3, y3, x4, y4, HG8, HF8, HT8, HK8⟩ := hcut
  clear fg0 fg1 g0 g1
  generalize wc = w8 at *
  have HR8 := hid ((HK8.out.block _ (lt_of_block HR5.out) (fun e => by have e9 : w.heap.size = g := e; have := HGL.out; omega)).trans HR5.out)
  have HS8 := hid ((HK8.out.block _ (lt_of_block HS5.out) (fun e => by have e9 : w.heap.size + 1 = g := e; have := HGL.out; omega)).trans HS5.out)
  have HQ8 := hid ((HK8.out.block _ (lt_of_block HQ5.out) (fun e => by have e9 : w.heap.size + 1 + 1 = g := e; have := HGL.out; omega)).trans HQ5.out)
  have HB8 : Hid (Below w.heap.size w w8) := hid (HB5.out.trans (HK8.out.below HB5.out.size (fun k e => by have e9 : k = g := e; have := HGL.out; omega)))
  have H18 := hid (H1.out.old HB8.out)
  have H28 := hid (H2.out.old HB8.out)
  clear HR5 HS5 HQ5 HB5 HK8 HF5 HT5 HG5 HO1 HO2 HQ9 HIB hgl z0 z1 z2 z3 z4
  have s0 := cell_in HS8.out 0 _ rfl
  have s1 := cell_in HS8.out 1 _ rfl
  have g0 := cell_in HG8.out 0 _ rfl
  have g1 := cell_in HG8.out 1 _ rfl
  have q0 := cell_in HQ8.out 0 _ rfl
  have fq0 := free_in HQ8.out 0
  have q1 := cell_in HQ8.out 1 _ rfl
  have fq1 := free_in HQ8.out 1
  by_cases ht0 : T2.length = 0
  case pos =>
    have i2 : ((T2.length : Nat) : Int) = 0 := by omega
    have j2 : (((T2.length : Nat) : Int) == 0) = true := by simpa using i2
    have et : T2 = [] := List.length_eq_zero_iff.1 ht0
    have eb : B = false := by
      rw [← HBB.out]
      subst et
      unfold bothT
      split
      · rename_i hh; rw [Bool.and_eq_true] at hh; exact absurd hh.2 (by cases T1 <;> simp [Op.bytesLess])
      · cases (bothF F1 F2) <;> simp [Op.bytesLess]
    subst eb
    clear et ht0
    go_wp2_with fail
    have hz9 := put_in (put_in HQ8.out 0 (.slice none 0 0)) 1 (.slice none 0 0)
    have hb9 : Below w.heap.size w ((w8.setCell ⟨w.heap.size + 1 + 1, 0, none⟩ (.slice none 0 0)).setCell ⟨w.heap.size + 1 + 1, 1, none⟩ (.slice none 0 0)) := (HB8.out.setCell (show w.heap.size ≤ w.heap.size + 1 + 1 by omega) _).setCell (show w.heap.size ≤ w.heap.size + 1 + 1 by omega) _
    generalize (w8.setCell ⟨w.heap.size + 1 + 1, 0, none⟩ (.slice none 0 0)).setCell ⟨w.heap.size + 1 + 1, 1, none⟩ (.slice none 0 0) = w13 at *
    (try simp only [Exit.inBlock, Exit.then]); refine bodyPost_ret (results_cell2 rfl _ _ (w.heap.size + 1 + 1) 66 _ (0, 0) _ rfl hz9 Try.underlying66 rfl (by kernel_rfl)) rfl ?_
    exact ⟨_, _, _, _, rfl, Rd.nil _, Rd.nil _, hb9⟩
  case neg =>
  have i2 : ¬ ((T2.length : Nat) : Int) = 0 := by omega
  have j2 : (((T2.length : Nat) : Int) == 0) = false := by simpa using i2
  have hne : T2 ≠ [] := fun e => ht0 (by rw [e]; rfl)
  have CM := rmeet_any HF8.out HT8.out H18.out H28.out
  rw [rmeet_comm, rmeet_eq hne] at CM
  have hmb : meetB F1 T1 F2 T2 = Op.bytesLess (bothF F1 F2) (bothT T1 T2) := rfl
  rw [hmb, HBB.out] at CM
  clear hmb hne ht0
  cases B with
  | false =>
    go_wp2_with (first | (go_at_call 127; refine CM.mono ?_; rintro en w9 ⟨rfl, hb9⟩; have HB9 := hid (below_step HB8.out hb9); have HQ9 := hid ((hb9.block _ (lt_of_block HQ8.out)).trans HQ8.out); clear hb9 CM s0 s1 g0 g1 q0 q1 fq0 fq1; have q0 := cell_in HQ9.out 0 _ rfl; have fq0 := free_in HQ9.out 0; have q1 := cell_in HQ9.out 1 _ rfl; have fq1 := free_in HQ9.out 1))
    have hz9 := put_in (put_in HQ9.out 0 (.slice none 0 0)) 1 (.slice none 0 0)
    have hb9 : Below w.heap.size w ((w9.setCell ⟨w.heap.size + 1 + 1, 0, none⟩ (.slice none 0 0)).setCell ⟨w.heap.size + 1 + 1, 1, none⟩ (.slice none 0 0)) := (HB9.out.setCell (show w.heap.size ≤ w.heap.size + 1 + 1 by omega) _).setCell (show w.heap.size ≤ w.heap.size + 1 + 1 by omega) _
    generalize (w9.setCell ⟨w.heap.size + 1 + 1, 0, none⟩ (.slice none 0 0)).setCell ⟨w.heap.size + 1 + 1, 1, none⟩ (.slice none 0 0) = w13 at *
    (try simp only [Exit.inBlock, Exit.then]); refine bodyPost_ret (results_cell2 rfl _ _ (w.heap.size + 1 + 1) 66 _ (0, 0) _ rfl hz9 Try.underlying66 rfl (by kernel_rfl)) rfl ?_
    exact ⟨_, _, _, _, rfl, Rd.nil _, Rd.nil _, hb9⟩
  | true =>
  go_upto_region 6 with (first | (go_at_call 127; refine CM.mono ?_; rintro en w9 ⟨rfl, hb9⟩; have HX9 := hid hb9; clear hb9 CM s0 s1 g0 g1 q0 q1 fq0 fq1))
  have HB9 := hid (below_step HB8.out HX9.out)
  have HS9 := hid ((HX9.out.block _ (lt_of_block HS8.out)).trans HS8.out)
  have HG9 := hid ((HX9.out.block _ (lt_of_block HG8.out)).trans HG8.out)
  have HQ9 := hid ((HX9.out.block _ (lt_of_block HQ8.out)).trans HQ8.out)
  have HF9 := hid (HF8.out.old HX9.out)
  have HT9 := hid (HT8.out.old HX9.out)
  have H19 := hid (H1.out.old HB9.out)
  have H29 := hid (H2.out.old HB9.out)
  clear HX9 HR8 HS8 HQ8 HB8 HF8 HT8 HG8 H18 H28 i2 j2
  have s0 := cell_in HS9.out 0 _ rfl
  have s1 := cell_in HS9.out 1 _ rfl
  have g0 := cell_in HG9.out 0 _ rfl
  have fg0 := free_in HG9.out 0
  have g1 := cell_in HG9.out 1 _ rfl
  have fg1 := free_in HG9.out 1
  have t1 := H19.out.conv (P := Try.prog) 62 9 5 Try.underlying62 Try.underlying5 Try.underlying9
  have t2 := HF9.out.conv (P := Try.prog) 62 9 5 Try.underlying62 Try.underlying5 Try.underlying9
  go_upto_if 40 with fail
  clear t1 t2
  have HFB : Hid (bothF F1 F2 = if Op.bytesLess F2 F1 then F1 else F2) := hid rfl
  generalize bothF F1 F2 = FB at *
  go_cut [] from 34 to 44 (fun wx => ∃ x y, Hid (wx.heap[g]? = some (.cells #[.slice x (FB).length y, .slice x4 T2.length y4] 66 (0, 0))) ∧ Hid (Rd wx (.slice x FB.length y) FB) ∧ Hid (Keep (· = g) w9 wx))
  case first =>
    cases hc : Op.bytesLess F2 F1 with
    | true =>
      have hc1 : Op.bytesLess F1 F2 = false := less_asymm hc
      have hc2 : (F1 == F2) = false := by
        cases he : (F1 == F2) with
        | false => rfl
        | true => rw [eq_of_beq he, less_irr] at hc; cases hc
      have CC := copyB_any w9 _ _ H19.out HL.out.1
      have e9 : F1 = FB := by rw [HFB.out, hc]; rfl
      have E9 := hid e9
      clear e9 hc
      simp only [hc1, hc2, Bool.not_false, Bool.not_true, Bool.and_true, Bool.and_false, Bool.true_and, Bool.false_and]
      go_wp2_with (first | (go_at_call 128; refine CC.mono ?_; rintro en w10 h3; obtain ⟨a7, c7, rfl, ho3, hb3⟩ := h3.elim; clear h3 CC s0 s1 g0 g1 fg0 fg1; have HO3 := hid (Rd.own ho3); have HX3 := hid hb3; have HG3 := hid ((hb3.block _ (lt_of_block HG9.out)).trans HG9.out); clear ho3 hb3; have g0 := cell_in HG3.out 0 _ rfl; have fg0 := free_in HG3.out 0))
      have k1 := keep1 w10 g 0 (.slice a7 F1.length c7)
      have p1 := put_in HG3.out 0 (.slice a7 F1.length c7)
      have r1 := rd_put HO3.out HG3.out k1
      have k2 : Keep (· = g) w9 _ := (kp_below HX3.out).trans k1
      generalize w10.setCell ⟨g, 0, none⟩ (.slice a7 F1.length c7) = w11 at *
      go_meet
      rw [← E9.out]
      exact ⟨a7, c7, hid p1, hid r1, hid k2⟩
    | false =>
      have e9 : F2 = FB := by rw [HFB.out, hc]; rfl
      have E9 := hid e9
      have hc9 := leq_of hc
      clear e9 hc
      rcases hc9 with hc1 | hc1
      · simp only [hc1, Bool.not_false, Bool.not_true, Bool.and_true, Bool.and_false, Bool.true_and, Bool.false_and]
        go_wp2_with fail
        go_meet
        rw [← E9.out]
        exact ⟨x3, y3, HG9, HF9, hid (Keep.refl _ _)⟩
      · have hc2 : (F1 == F2) = true := by rw [hc1]; simp
        have hc3 : Op.bytesLess F1 F2 = false := by rw [hc1]; exact less_irr _
        clear hc1
        simp only [hc2, hc3, Bool.not_false, Bool.not_true, Bool.and_true, Bool.and_false, Bool.true_and, Bool.false_and]
        go_wp2_with fail
        go_meet
        rw [← E9.out]
        exact ⟨x3, y3, HG9, HF9, hid (Keep.refl _ _)⟩
  case rest =>
  obtain ⟨x5, y5, HG11, HF11, HK11⟩ := hcut
  clear s0 s1 g0 g1 fg0 fg1
  generalize wc = w11 at *
  have HS11 := hid ((HK11.out.block _ (lt_of_block HS9.out) (fun e => by have e9 : w.heap.size + 1 = g := e; have := HGL.out; omega)).trans HS9.out)
  have HQ11 := hid ((HK11.out.block _ (lt_of_block HQ9.out) (fun e => by have e9 : w.heap.size + 1 + 1 = g := e; have := HGL.out; omega)).trans HQ9.out)
  have HB11 : Hid (Below w.heap.size w w11) := hid (HB9.out.trans (HK11.out.below HB9.out.size (fun k e => by have e9 : k = g := e; have := HGL.out; omega)))
  have HT11 := hid (rd_put HT9.out HG9.out HK11.out)
  have H211 := hid (H2.out.old HB11.out)
  clear HK11 HS9 HQ9 HB9 HF9 HT9 HG9 H19 H29 HFB
  have s0 := cell_in HS11.out 0 _ rfl
  have s1 := cell_in HS11.out 1 _ rfl
  have g0 := cell_in HG11.out 0 _ rfl
  have fg0 := free_in HG11.out 0
  have g1 := cell_in HG11.out 1 _ rfl
  have fg1 := free_in HG11.out 1
  have t1 := H211.out.conv (P := Try.prog) 62 9 5 Try.underlying62 Try.underlying5 Try.underlying9
  have t2 := HT11.out.conv (P := Try.prog) 62 9 5 Try.underlying62 Try.underlying5 Try.underlying9
  have HTB : Hid (bothT T1 T2 = if (!decide (T1 = []) && Op.bytesLess T1 T2) then T1 else T2) := hid rfl
  generalize bothT T1 T2 = TB at *
  go_upto_region 8 with fail
  go_cut [57] from 45 to 57 (fun s wx => s = .bool (!decide (T1.length = 0) && Op.bytesLess T1 T2) ∧ wx = w11)
  case first =>
    by_cases g1 : T1.length = 0
    · have j1 : ¬ (0 : Int) < ((T1.length : Nat) : Int) := by omega
      have j2 : ¬ 0 < T1.length := by omega
      have G1 := hid g1
      clear g1
      go_wp2_with fail
      go_meet
      exact ⟨by simp [G1.out], rfl⟩
    · have j1 : (0 : Int) < ((T1.length : Nat) : Int) := by omega
      have j2 : 0 < T1.length := by omega
      have G1 := hid g1
      clear g1
      go_wp2_with fail
      go_meet
      exact ⟨by simp [G1.out], rfl⟩
  case rest =>
  obtain ⟨rfl, hwc⟩ := hcut
  rw [hwc]
  clear hwc t1 t2
  have HTC : Hid (TB = if (!decide (T1.length = 0) && Op.bytesLess T1 T2) then T1 else T2) := hid (by rw [HTB.out]; simp only [HN1.out])
  clear HTB HN1
  generalize (!decide (T1.length = 0) && Op.bytesLess T1 T2) = q at *
  go_upto_if 57 with fail
  go_cut [] from 57 to 61 (fun wx => ∃ x y x2 y2, Hid (wx.heap[g]? = some (.cells #[.slice x FB.length y, .slice x2 TB.length y2] 66 (0, 0))) ∧ Hid (Rd wx (.slice x FB.length y) FB) ∧ Hid (Rd wx (.slice x2 TB.length y2) TB) ∧ Hid (Keep (· = g) w11 wx))
  case first =>
    cases q with
    | true =>
      have CC := copyB_any w11 _ _ H211.out HL.out.2
      have E9 := hid (show T1 = TB from by rw [HTC.out]; rfl)
      go_wp2_with (first | (go_at_call 128; refine CC.mono ?_; rintro en w12 h3; obtain ⟨a7, c7, rfl, ho3, hb3⟩ := h3.elim; clear h3 CC s0 s1 g0 g1 fg0 fg1; have HO3 := hid (Rd.own ho3); have HX3 := hid hb3; have HG3 := hid ((hb3.block _ (lt_of_block HG11.out)).trans HG11.out); clear ho3 hb3; have g1 := cell_in HG3.out 1 _ rfl; have fg1 := free_in HG3.out 1))
      have k1 := keep1 w12 g 1 (.slice a7 T1.length c7)
      have p1 := put_in HG3.out 1 (.slice a7 T1.length c7)
      have r1 := rd_put HO3.out HG3.out k1
      have r2 := rd_put (HF11.out.old HX3.out) HG3.out k1
      have k2 : Keep (· = g) w11 _ := (kp_below HX3.out).trans k1
      generalize w12.setCell ⟨g, 1, none⟩ (.slice a7 T1.length c7) = w13 at *
      go_meet
      rw [← E9.out]
      exact ⟨x5, y5, a7, c7, hid p1, hid r2, hid r1, hid k2⟩
    | false =>
      have E9 := hid (show T2 = TB from by rw [HTC.out]; rfl)
      go_wp2_with fail
      go_meet
      rw [← E9.out]
      exact ⟨x5, y5, x4, y4, HG11, HF11, HT11, hid (Keep.refl _ _)⟩
  case rest =>
  obtain ⟨x6, y6, x7, y7, HG14, HF14, HT14, HK14⟩ := hcut
  clear s0 s1 g0 g1 fg0 fg1
  generalize wc = w14 at *
  have HQ14 := hid ((HK14.out.block _ (lt_of_block HQ11.out) (fun e => by have e9 : w.heap.size + 1 + 1 = g := e; have := HGL.out; omega)).trans HQ11.out)
  have HB14 : Hid (Below w.heap.size w w14) := hid (HB11.out.trans (HK14.out.below HB11.out.size (fun k e => by have e9 : k = g := e; have := HGL.out; omega)))
  have g0 := cell_in HG14.out 0 _ rfl
  have g1 := cell_in HG14.out 1 _ rfl
  have q0 := cell_in HQ14.out 0 _ rfl
  have fq0 := free_in HQ14.out 0
  have q1 := cell_in HQ14.out 1 _ rfl
  have fq1 := free_in HQ14.out 1
  go_wp2_with fail
  have hz9 := put_in (put_in HQ14.out 0 (.slice x6 FB.length y6)) 1 (.slice x7 TB.length y7)
  have hb9 : Below w.heap.size w ((w14.setCell ⟨w.heap.size + 1 + 1, 0, none⟩ (.slice x6 FB.length y6)).setCell ⟨w.heap.size + 1 + 1, 1, none⟩ (.slice x7 TB.length y7)) := (HB14.out.setCell (show w.heap.size ≤ w.heap.size + 1 + 1 by omega) _).setCell (show w.heap.size ≤ w.heap.size + 1 + 1 by omega) _
  have r1 := rd_put HF14.out HQ14.out (keep2 w14 (w.heap.size + 1 + 1) (.slice x6 FB.length y6) (.slice x7 TB.length y7))
  have r2 := rd_put HT14.out HQ14.out (keep2 w14 (w.heap.size + 1 + 1) (.slice x6 FB.length y6) (.slice x7 TB.length y7))
  generalize (w14.setCell ⟨w.heap.size + 1 + 1, 0, none⟩ (.slice x6 FB.length y6)).setCell ⟨w.heap.size + 1 + 1, 1, none⟩ (.slice x7 TB.length y7) = w15 at *
  (try simp only [Exit.inBlock, Exit.then]); refine bodyPost_ret (results_cell2 rfl _ _ (w.heap.size + 1 + 1) 66 _ (0, 0) _ rfl hz9 Try.underlying66 rfl (by kernel_rfl)) rfl ?_
  exact ⟨_, _, _, _, rfl, r1, r2, hb9⟩
end Go.Proofs.Ytafcbelkhhjcoaa

set_option linter.unusedVariables false
set_option linter.unusedSimpArgs false
set_option maxRecDepth 100000
namespace Go.Proofs.Ytafcbelkhhjcoaa
open Go.RowKit Go.Deep

theorem ows_one {w : World} {g : Nat} {a : Option Addr} {n c : Nat} {z : Int} {f : List UInt8} {t : TypeId} (h : w.heap[g]? = some (.cells #[.int .i64 z, .slice a n c] t (0, 0))) (hn : n = f.length) (hf : Rd w (.slice a n c) f) : OwsN w (.slice (some ⟨g, 0, none⟩) 1 1) [⟨z, f⟩] := by
  subst hn
  refine ⟨[[.int .i64 z, .slice a f.length c]], rfl, ⟨some ⟨g, 0, none⟩, 1, rfl, by simp, by unfold maxLen; omega, (fun e => by cases e), fun r hr => ?_, fun ad ha j u hu => ?_⟩, fun i r o h1 h2 => ?_⟩
  · rw [List.mem_singleton.1 hr]; exact ⟨rfl, fun u hu => by simp at hu; rcases hu with rfl | rfl <;> rfl⟩
  · cases ha
    have hw : (some ⟨g, 0, none⟩ : Option Addr) = some ⟨g, 0, none⟩ := rfl
    rcases j with _ | _ | j
    · simp at hu; subst hu; exact cell_in h 0 _ rfl
    · simp at hu; subst hu; exact cell_in h 1 _ rfl
    · simp at hu
  · cases i with
    | zero => simp at h1 h2; subst h1; subst h2; exact ⟨a, c, rfl, hf⟩
    | succ i => simp at h1
/-- New routes are told. -/
def NewA (w : World) (bs : Int) (e : Ending) (w' : World) : Prop :=
  ∃ ao c, e = .returned (.tuple #[.agg #[.int .i64 0, .int .i64 bs, .slice ao 1 c, .int .i64 0, .slice none 0 0], .int .i64 0]) ∧ OwsN w' (.slice ao 1 c) [⟨bs + 1, [120]⟩] ∧ Below w.heap.size w w'
theorem results_cell5 {P : Program} {fn : Func} {p u : Tmp} {ty : TypeId} (h : fn.results = #[.cell p ty, .tmp u]) (tmps : Array Value) (w : World) (g : Nat) (t : TypeId) (cs : Array Value) (fr : Nat × Nat) (d : TypeDesc)
    (hp : tmps.getD p undef = .pointer (some ⟨g, 0, none⟩)) (hg : w.heap[g]? = some (.cells cs t fr))
    (hu : P.underlying ty = some d) (hd : (match d with | .struct _ | .array _ _ => true | _ => false) = true) (hi : (P.info? ty).map (·.size) = some cs.size) :
    (results fn tmps).run P w = .ok (.tuple #[.agg cs, tmps.getD u undef]) w := by
  have hp' : tmps[p]?.getD undef = .pointer (some ⟨g, 0, none⟩) := by simpa using hp
  simp [results, h, hp', asAddr, run_loadVar_row w g t ty cs fr d hg hu hd hi]
set_option maxHeartbeats 4000000 in
theorem new_ok (w : World) (bs sp : Int) (h1 : bfB bs = true) (h2 : 1 ≤ sp) (h3 : sp ≤ 4) : Calls Try.prog 41 #[.int .i64 bs, .int .i64 sp] w (NewA w bs) := by
  have HC := fun W => bf_any W bs
  rw [h1] at HC
  have hbs : 1 ≤ bs ∧ bs ≤ 4 := by unfold bfB at h1; simpa using h1
  have h2b : ¬ sp < 1 := by omega
  have h3b : ¬ sp > 4 := by omega
  have hbw : IntKind.i64.wrap (bs + 1) = bs + 1 := IntWalk.i64_in _ (by omega)
  go_enter Try.func41, Try.ntmps41
  go_upto_region 1 with fail
  have hb := (Below.refl w.heap.size w).alloc (Nat.le_refl _) (.cells #[.int .i64 0, .int .i64 0, .slice none 0 0, .int .i64 0, .slice none 0 0] 64)
  have hz := heap_alloc_new w (.cells #[.int .i64 0, .int .i64 0, .slice none 0 0, .int .i64 0, .slice none 0 0] 64)
  have hs : (w.alloc (.cells #[.int .i64 0, .int .i64 0, .slice none 0 0, .int .i64 0, .slice none 0 0] 64)).heap.size = w.heap.size + 1 := by simp
  generalize w.alloc (.cells #[.int .i64 0, .int .i64 0, .slice none 0 0, .int .i64 0, .slice none 0 0] 64) = w1 at *
  have HB := hid hb
  have HZ := hid hz
  have HS := hid hs
  have z0 := cell_in hz 0 _ rfl
  have f0 := free_in hz 0
  have z1 := cell_in hz 1 _ rfl
  have f1 := free_in hz 1
  have z2 := cell_in hz 2 _ rfl
  have f2 := free_in hz 2
  have z3 := cell_in hz 3 _ rfl
  have f3 := free_in hz 3
  have z4 := cell_in hz 4 _ rfl
  have f4 := free_in hz 4
  clear hb hz hs
  go_upto_region 3 with (first | (go_at_call 115; refine (HC _).mono ?_; rintro en w3 ⟨rfl, e3⟩; obtain rfl : w1 = w3 := e3.symm))
  have hsz := HS.out
  go_wp2_with fail
  have hz2 := (put_in (put_in (put_in (put_in (put_in HZ.out 0 (.int .i64 0)) 1 (.int .i64 bs)) 2 (.slice (some ⟨w.heap.size + 1 + 1, 0, none⟩) 1 1)) 3 (.int .i64 0)) 4 (.slice none 0 0))
  have hb2 : Below w.heap.size w (((((w1.setCell ⟨w.heap.size, 0, none⟩ (.int .i64 0)).setCell ⟨w.heap.size, 1, none⟩ (.int .i64 bs)).setCell ⟨w.heap.size, 2, none⟩ (.slice (some ⟨w.heap.size + 1 + 1, 0, none⟩) 1 1)).setCell ⟨w.heap.size, 3, none⟩ (.int .i64 0)).setCell ⟨w.heap.size, 4, none⟩ (.slice none 0 0)) := (((((HB.out.setCell (Nat.le_refl _) _).setCell (Nat.le_refl _) _).setCell (Nat.le_refl _) _).setCell (Nat.le_refl _) _).setCell (Nat.le_refl _) _)
  have hs2 : (((((w1.setCell ⟨w.heap.size, 0, none⟩ (.int .i64 0)).setCell ⟨w.heap.size, 1, none⟩ (.int .i64 bs)).setCell ⟨w.heap.size, 2, none⟩ (.slice (some ⟨w.heap.size + 1 + 1, 0, none⟩) 1 1)).setCell ⟨w.heap.size, 3, none⟩ (.int .i64 0)).setCell ⟨w.heap.size, 4, none⟩ (.slice none 0 0)).heap.size = w.heap.size + 1 := by simp [HS.out]
  generalize (((((w1.setCell ⟨w.heap.size, 0, none⟩ (.int .i64 0)).setCell ⟨w.heap.size, 1, none⟩ (.int .i64 bs)).setCell ⟨w.heap.size, 2, none⟩ (.slice (some ⟨w.heap.size + 1 + 1, 0, none⟩) 1 1)).setCell ⟨w.heap.size, 3, none⟩ (.int .i64 0)).setCell ⟨w.heap.size, 4, none⟩ (.slice none 0 0)) = w2 at *
  have k1 := heap_alloc_new w2 (.cells #[.int .u8 120] 5)
  have hb3 := hb2.alloc (by omega) (.cells #[.int .u8 120] 5)
  have k0 := (((Below.refl w2.heap.size w2).alloc (Nat.le_refl _) (.cells #[.int .u8 120] 5)).block _ (by omega)).trans hz2
  have hs3 : (w2.alloc (.cells #[.int .u8 120] 5)).heap.size = w.heap.size + 1 + 1 := by simp; omega
  rw [hs2] at k1
  generalize w2.alloc (.cells #[.int .u8 120] 5) = w3 at *
  have m2 := heap_alloc_new w3 (.cells #[.int .i64 (bs + 1), .slice (some ⟨w.heap.size + 1, 0, none⟩) 1 1] 140)
  have hb4 := hb3.alloc (by omega) (.cells #[.int .i64 (bs + 1), .slice (some ⟨w.heap.size + 1, 0, none⟩) 1 1] 140)
  have m0 := (((Below.refl w3.heap.size w3).alloc (Nat.le_refl _) (.cells #[.int .i64 (bs + 1), .slice (some ⟨w.heap.size + 1, 0, none⟩) 1 1] 140)).block _ (by omega)).trans k0
  have m1 := (((Below.refl w3.heap.size w3).alloc (Nat.le_refl _) (.cells #[.int .i64 (bs + 1), .slice (some ⟨w.heap.size + 1, 0, none⟩) 1 1] 140)).block _ (by omega)).trans k1
  rw [hs3] at m2
  generalize w3.alloc (.cells #[.int .i64 (bs + 1), .slice (some ⟨w.heap.size + 1, 0, none⟩) 1 1] 140) = w4 at *
  refine bodyPost_ret (results_cell5 rfl _ _ w.heap.size 64 _ (0, 0) _ rfl m0 Try.underlying64 rfl (by kernel_rfl)) rfl ?_
  exact ⟨_, _, rfl, ows_one m2 rfl (zrd_one m1), hb4⟩
theorem small_any (w : World) (R : Rou) (ao b : Option Addr) (c d : Nat) (h : R.sp.length < 30) : Calls Try.prog 39 #[.agg #[.int .i64 R.ep, .int .i64 R.base, .slice ao R.sp.length c, .int .i64 R.mv, .slice b R.cut.length d]] w (AnsP w (.bool true)) := by
  have hi : ((R.sp.length : Nat) : Int) < 30 := by omega
  go_enter Try.func39, Try.ntmps39
  go_upto_region 1 with fail
  have hb := (Below.refl w.heap.size w).alloc (Nat.le_refl _) (.cells #[.int .i64 R.ep, .int .i64 R.base, .slice ao R.sp.length c, .int .i64 R.mv, .slice b R.cut.length d] 64)
  have hz := heap_alloc_new w (.cells #[.int .i64 R.ep, .int .i64 R.base, .slice ao R.sp.length c, .int .i64 R.mv, .slice b R.cut.length d] 64)
  have hs : (w.alloc (.cells #[.int .i64 R.ep, .int .i64 R.base, .slice ao R.sp.length c, .int .i64 R.mv, .slice b R.cut.length d] 64)).heap.size = w.heap.size + 1 := by simp
  generalize w.alloc (.cells #[.int .i64 R.ep, .int .i64 R.base, .slice ao R.sp.length c, .int .i64 R.mv, .slice b R.cut.length d] 64) = w1 at *
  have z2 := cell_in hz 2 _ rfl
  have HB := hid hb
  clear hb hz hs
  go_wp2_with fail
  go_ret
  exact ⟨rfl, HB.out⟩
theorem small_no (w : World) (R : Rou) (ao b : Option Addr) (c d : Nat) (h : ¬ R.sp.length < 30) : Calls Try.prog 39 #[.agg #[.int .i64 R.ep, .int .i64 R.base, .slice ao R.sp.length c, .int .i64 R.mv, .slice b R.cut.length d]] w (AnsP w (.bool false)) := by
  have hi : ¬ ((R.sp.length : Nat) : Int) < 30 := by omega
  go_enter Try.func39, Try.ntmps39
  go_upto_region 1 with fail
  have hb := (Below.refl w.heap.size w).alloc (Nat.le_refl _) (.cells #[.int .i64 R.ep, .int .i64 R.base, .slice ao R.sp.length c, .int .i64 R.mv, .slice b R.cut.length d] 64)
  have hz := heap_alloc_new w (.cells #[.int .i64 R.ep, .int .i64 R.base, .slice ao R.sp.length c, .int .i64 R.mv, .slice b R.cut.length d] 64)
  have hs : (w.alloc (.cells #[.int .i64 R.ep, .int .i64 R.base, .slice ao R.sp.length c, .int .i64 R.mv, .slice b R.cut.length d] 64)).heap.size = w.heap.size + 1 := by simp
  generalize w.alloc (.cells #[.int .i64 R.ep, .int .i64 R.base, .slice ao R.sp.length c, .int .i64 R.mv, .slice b R.cut.length d] 64) = w1 at *
  have z2 := cell_in hz 2 _ rfl
  have HB := hid hb
  clear hb hz hs
  go_wp2_with fail
  go_ret
  exact ⟨rfl, HB.out⟩
set_option maxHeartbeats 4000000 in
theorem hspan_any {w : World} {a1 a2 a3 a4 : Option Addr} {c1 c2 c3 c4 : Nat} {F1 T1 F2 T2 : List UInt8} (h1 : Rd w (.slice a1 F1.length c1) F1) (h2 : Rd w (.slice a2 T1.length c2) T1) (h3 : Rd w (.slice a3 F2.length c3) F2) (h4 : Rd w (.slice a4 T2.length c4) T2) :
    Calls Try.prog 48 #[.agg #[.slice a1 F1.length c1, .slice a2 T1.length c2], .agg #[.slice a3 F2.length c3, .slice a4 T2.length c4]] w (AnsP w (.bool ((F1 == F2) && (T1 == T2)))) := by
  go_enter Try.func48, Try.ntmps48
  go_upto_region 1 with fail
  have hb1 := (Below.refl w.heap.size w).alloc (Nat.le_refl _) (.cells #[.slice a1 F1.length c1, .slice a2 T1.length c2] 66)
  have hz1 := heap_alloc_new w (.cells #[.slice a1 F1.length c1, .slice a2 T1.length c2] 66)
  have hs1 : (w.alloc (.cells #[.slice a1 F1.length c1, .slice a2 T1.length c2] 66)).heap.size = w.heap.size + 1 := by simp
  generalize w.alloc (.cells #[.slice a1 F1.length c1, .slice a2 T1.length c2] 66) = w1 at *
  have hb2 := hb1.alloc (by omega) (.cells #[.slice a3 F2.length c3, .slice a4 T2.length c4] 66)
  have hz2 := heap_alloc_new w1 (.cells #[.slice a3 F2.length c3, .slice a4 T2.length c4] 66)
  have hz12 := (((Below.refl w1.heap.size w1).alloc (Nat.le_refl _) (.cells #[.slice a3 F2.length c3, .slice a4 T2.length c4] 66)).block _ (by omega)).trans hz1
  rw [hs1] at hz2
  generalize w1.alloc (.cells #[.slice a3 F2.length c3, .slice a4 T2.length c4] 66) = w2 at *
  have p0 := cell_in hz12 0 _ rfl
  have fp0 := free_in hz12 0
  have p1 := cell_in hz12 1 _ rfl
  have fp1 := free_in hz12 1
  have q0 := cell_in hz2 0 _ rfl
  have fq0 := free_in hz2 0
  have q1 := cell_in hz2 1 _ rfl
  have fq1 := free_in hz2 1
  have CF := hid (zbytes_any w2 (h1.old hb2) (h3.old hb2))
  have CT := hid (zbytes_any w2 (h2.old hb2) (h4.old hb2))
  have HB := hid hb2
  clear hb1 hz1 hs1 hb2 hz2 hz12 h1 h2 h3 h4
  cases hF : (F1 == F2) with
  | false =>
    rw [hF] at CF
    go_wp2_with (first | (go_at_call 91; refine CF.out.mono ?_; rintro en w3 ⟨rfl, e3⟩; obtain rfl : w2 = w3 := e3.symm))
    go_ret
    exact ⟨by rw [hF]; rfl, HB.out⟩
  | true =>
    rw [hF] at CF
    obtain ⟨bt, hbt⟩ : ∃ bt, (T1 == T2) = bt := ⟨_, rfl⟩
    rw [hbt] at CT ⊢
    go_wp2_with (first
      | (go_at_call 91; first
          | (refine CF.out.mono ?_; rintro en w3 ⟨rfl, e3⟩; obtain rfl : w2 = w3 := e3.symm; clear CF)
          | (refine CT.out.mono ?_; rintro en w3 ⟨rfl, e3⟩; obtain rfl : w2 = w3 := e3.symm)))
    go_ret
    exact ⟨by rw [hF, hbt]; simp, HB.out⟩
def R0 : Rou := ⟨0, 2, [⟨3, [120]⟩], 0, []⟩
set_option maxHeartbeats 4000000 in
theorem awake_ok (w : World) : Calls Try.prog 40 #[] w (AnsP w (.bool true)) := by
  go_enter Try.func40, Try.ntmps40
  go_upto_region 2 with (first | (go_at_call 41; refine (new_ok w 2 2 (by decide) (by decide) (by decide)).mono ?_; rintro en w3 ⟨ao, c, rfl, hr, hb3⟩; have HR := hid hr; have HB3 := hid hb3; clear hr hb3))
  have hb4 := (Below.refl w3.heap.size w3).alloc (Nat.le_refl _) (.cells #[.int .i64 0, .int .i64 2, .slice ao 1 c, .int .i64 0, .slice none 0 0] 64)
  have hz4 := heap_alloc_new w3 (.cells #[.int .i64 0, .int .i64 2, .slice ao 1 c, .int .i64 0, .slice none 0 0] 64)
  have HR4 := hid (HR.out.old hb4)
  have HB4 := hid (below_step HB3.out hb4)
  generalize w3.alloc (.cells #[.int .i64 0, .int .i64 2, .slice ao 1 c, .int .i64 0, .slice none 0 0] 64) = w4 at *
  have hlm := ows_form HR4.out
  obtain ⟨ao', c', e, -, hm, hc⟩ := ows_cells HR4.out
  cases e
  obtain ⟨b1, of1, x1, d1, rfl, c0, c1, cr⟩ := hc 0 ⟨3, [120]⟩ rfl
  simp only [Nat.zero_mul, Nat.add_zero] at c0
  have z0 := cell_in hz4 0 _ rfl
  have f0 := free_in hz4 0
  have z1 := cell_in hz4 1 _ rfl
  have f1 := free_in hz4 1
  have z2 := cell_in hz4 2 _ rfl
  have f2 := free_in hz4 2
  have z3 := cell_in hz4 3 _ rfl
  have f3 := free_in hz4 3
  have z4 := cell_in hz4 4 _ rfl
  have f4 := free_in hz4 4
  have hb5 := (Below.refl w4.heap.size w4).alloc (Nat.le_refl _) (.cells #[.int .u8 120] 5)
  have HB5 := hid (below_step HB4.out hb5)
  have CG := hid (group_any (R := R0) (b := none) (d := 0) (by decide) (HR4.out.old hb5) (zrd_one (c := 120) (heap_alloc_new w4 (.cells #[.int .u8 120] 5))))
  have hg : grpI R0 [120] = 3 := by decide
  rw [hg] at CG
  clear hg hb4 hz4 hb5 hc hm c1 cr
  go_wp2_with (first | (go_at_call 53; refine CG.out.mono ?_; rintro en w6 ⟨rfl, hb6⟩; have HB6 := hid (below_step HB5.out hb6); clear hb6))
  go_ret
  exact ⟨rfl, HB6.out⟩
end Go.Proofs.Ytafcbelkhhjcoaa

