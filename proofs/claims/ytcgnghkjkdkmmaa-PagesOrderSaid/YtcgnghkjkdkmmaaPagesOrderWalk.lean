/-
  THE LAW PagesOrder: its walk.
-/
import Derived.LoopN
import Derived.Deep.RegionHeld3
import Derived.Test.YtcgnghkjkdkmmaaGor
import Derived.Test.YtcgnghkjkdkmmaaGsm
import Derived.Test.YtcgnghkjkdkmmaaGtl
import Derived.Test.YtcgnghkjkdkmmaaGlaw
set_option linter.unusedVariables false
namespace Go.Proofs.Ytcgnghkjkdkmmaa
open Go.RowKit Go.Shelf
attribute [local go_sem] Oper.semAt_some

/-- Both maps. -/
structure Two (w : World) (M : List Lp) (t n mbA mbB : Nat) (vA vB : Value) (GA GB : List Pg) (W : World) : Prop where
  below : Below w.heap.size w W
  a : Has w.heap.size M (fun j => j) n mbA vA GA W
  b : Has w.heap.size M (fun j => (j + t) % M.length) n mbB vB GB W
  sep : ∀ k, MX mbB vB k → ¬ MX mbA vA k
  offA : Off (MX mbA vA) GB
  offB : Off (MX mbB vB) GA

theorem Two.old {w : World} {M : List Lp} {t n mbA mbB : Nat} {vA vB : Value} {GA GB : List Pg} {W W' : World} (h : Two w M t n mbA mbB vA vB GA GB W) (hb : Below W.heap.size W W') : Two w M t n mbA mbB vA vB GA GB W' :=
  ⟨h.below.trans (hb.mono h.below.size), h.a.old hb, h.b.old hb, h.sep, h.offA, h.offB⟩

theorem Two.mid {w : World} {M : List Lp} {t n mbA mbB : Nat} {vA vB vA' : Value} {GA GB GA' : List Pg} {W W1 W2 : World} {L : List Lp} (h : Two w M t n mbA mbB vA vB GA GB W) (ht1 : Turned w.heap.size mbA vA GA L W W1 vA' GA') (hb1 : Below W1.heap.size W1 W2) :
    Mp w.heap.size W2 mbB vB GB ∧ Below w.heap.size w W2 :=
  ⟨(ht1.other h.b.mp h.sep h.offA).1.old hb1, (h.below.trans (ht1.keep.below h.a.mp.base_le h.a.mp.mx_lo)).trans (hb1.mono ht1.mp.base_le)⟩

theorem Two.step {w : World} {M : List Lp} {t n mbA mbB : Nat} {vA vB vA' vB' : Value} {GA GB GA' GB' : List Pg} {W W1 W2 W3 W4 : World} {m u m1 u1 : Lp} (h : Two w M t n mbA mbB vA vB GA GB W) (hm : M[n]? = some m) (hu : M[(n + t) % M.length]? = some u)
    (hd1 : ∀ j x, j < n → M[j]? = some x → x.key ≠ m.key) (hd2 : ∀ j x, j < n → M[(j + t) % M.length]? = some x → x.key ≠ u.key)
    (hal1 : Alike m1 m) (ht1 : Turned w.heap.size mbA vA GA (if mayE m = 0 then putM (mls GA).flatten m1 else (mls GA).flatten) W W1 vA' GA') (hb1 : Below W1.heap.size W1 W2)
    (hal2 : Alike u1 u) (ht2 : Turned w.heap.size mbB vB GB (if mayE u = 0 then putM (mls GB).flatten u1 else (mls GB).flatten) W2 W3 vB' GB') (hb3 : Below W3.heap.size W3 W4) : Two w M t (n + 1) mbA mbB vA' vB' GA' GB' W4 := by
  obtain ⟨k1, k2, k3⟩ := ht1.other h.b.mp h.sep h.offA
  have hA1 := h.a.next hm hal1 hd1 ht1
  have offB1 : Off (MX mbB vB) GA' := ht1.offnew h.b.mp.mx_lt h.offB
  have hB2 : Has w.heap.size M (fun j => (j + t) % M.length) n mbB vB GB W2 := ⟨k1.old hb1, h.b.fit, h.b.len, h.b.mem⟩
  have hA2 := hA1.old hb1
  obtain ⟨q1, q2, q3⟩ := ht2.other hA2.mp (fun k hk hB => k2 k hB hk) offB1
  have hB3 := hB2.next hu hal2 hd2 ht2
  have hbw := (h.mid ht1 hb1).2
  have offA3 : Off (MX mbA vA') GB' := ht2.offnew hA2.mp.mx_lt k3
  exact ⟨(hbw.trans (ht2.keep.below hB2.mp.base_le hB2.mp.mx_lo)).trans (hb3.mono ht2.mp.base_le), Has.old ⟨q1, hA2.fit, hA2.len, hA2.mem⟩ hb3, hB3.old hb3, fun k hk hA => q2 k hA hk, offA3, q3⟩

theorem turn_number (z : Int) (L : Nat) (hL : L ≤ 80) (hpos : 0 < L) : ∃ t : Nat, ∀ n : Nat, n ≤ 80 → (wrap64 ((n : Int) + wrap64 ((IntKind.u64.wrap z).tmod (L : Int)))).tmod (L : Int) = (((n + t) % L : Nat) : Int) := by
  have e : IntKind.u64.wrap z = (((z % 18446744073709551616).toNat : Nat) : Int) := by rw [IntKind.wrap_u64]; omega
  generalize (z % 18446744073709551616).toNat = u at e
  have h1 : (u : Int).tmod (L : Int) = ((u % L : Nat) : Int) := rfl
  have h2 : u % L < L := Nat.mod_lt _ hpos
  refine ⟨u % L, fun n hn => ?_⟩
  rw [e, h1]
  have h3 : wrap64 ((u % L : Nat) : Int) = ((u % L : Nat) : Int) := by simp only [wrap64]; omega
  have h4 : wrap64 ((n : Int) + ((u % L : Nat) : Int)) = ((n + u % L : Nat) : Int) := by simp only [wrap64]; omega
  rw [h3, h4]
  rfl

theorem span_all (M : List Lp) : (M.filter fun m => inSpan [] [] m.key) = M := List.filter_eq_self.2 (fun m _ => by
  have h0 : Op.bytesLess m.key [] = false := by cases m.key <;> simp [Op.bytesLess]
  unfold inSpan
  rw [h0]
  rfl)

theorem mod_ne {L t j n : Nat} (hj : j < n) (hn : n < L) : (j + t) % L ≠ (n + t) % L := fun e => by
  have h1 : (n + t) % L = ((j + t) % L + (n - j)) % L := by rw [Nat.mod_add_mod]; congr 1; omega
  rw [← e] at h1
  have h2 := Nat.mod_lt (j + t) (show 0 < L by omega)
  generalize (j + t) % L = r at *
  by_cases h3 : r + (n - j) < L
  · rw [Nat.mod_eq_of_lt h3] at h1
    clear e
    omega
  · have h4 : r + (n - j) - L < L := by clear e h1; omega
    rw [Nat.mod_eq_sub_mod (by clear e h1; omega), Nat.mod_eq_of_lt h4] at h1
    clear e
    omega

namespace pagesOrder
set_option maxHeartbeats 32000000 in
set_option maxRecDepth 100000 in
theorem walk0 (x : Value) (M : List Lp) (z : Int) (w : World) (hx : Prs w x M) (hz : (Lit.int .i64 z).wf = true) :
    Calls Try.prog 4 #[x, .int .i64 z] w (AnsP w (.bool true)) := by
  obtain ⟨xo, xc, rfl, hmx⟩ := hx.form
  unfold maxLen at hmx
  have HX := hid hx
  clear hx
  refine calls_marks Try.func4 rfl ?_
  simp only [Try.ntmps4, List.size_toArray, List.length_cons, List.length_nil, Nat.reduceAdd, Nat.reduceSub, Array.replicate_succ, Array.replicate_zero, List.push_toArray, List.append_toArray, List.nil_append, List.cons_append]
  go_wp2_with (first | (go_at_call 9; refine (new_any w.heap.size w (Nat.le_refl _)).mono ?_))
  rintro e w1 ⟨rfl, hM1, hb1⟩
  have hmB : ∃ q, q = w1.heap.size := ⟨_, rfl⟩
  go_wp2_with (first | (go_at_call 9; refine (new_any w.heap.size w1 hb1.size).mono ?_))
  rintro e w2 ⟨rfl, hM2, hb2⟩
  go_wp2_with (first | (go_at_call 10; refine (awake_any w2).mono ?_))
  rintro e w3 ⟨rfl, hb3⟩
  have HM1 := hid (hM1.old (hb2.trans (hb3.mono hb2.size)))
  have HM2 := hid (hM2.old hb3)
  have HBW : Hid (Below w.heap.size w w3) := hb1.trans ((hb2.trans (hb3.mono hb2.size)).mono hb1.size)
  have HAB : Hid (w.heap.size < w1.heap.size) := lt_of_block hM1.hd
  have CA : Hid (Calls Try.prog 10 #[] w3 (AnsP w3 (.bool true))) := awake_any w3
  clear hM1 hM2 hb1 hb2 hb3 hmB
  by_cases h0 : M.length = 0
  · have e0 : (M.length : Int) = 0 := by omega
    go_wp2_with (first | (go_at_call 10; refine CA.out.mono ?_; rintro e w4 ⟨rfl, hb4⟩))
    refine ⟨_, results_tmp rfl _ _ _, rfl, HBW.out.trans (hb4.mono HBW.out.size)⟩
  · by_cases h80 : M.length ≤ 80
    · have e0 : ¬ ((M.length : Int) = 0) := by omega
      have e0' : ((M.length : Int) == 0) = false := by simpa using e0
      have e2 : ¬ ((80 : Int) < (M.length : Int)) := by omega
      have e2' : ¬ (80 < M.length) := by omega
      have e2d : decide ((80 : Int) < (M.length : Int)) = false := by simp; omega
      go_wp2_with fail
      have HXM := hid (HX.out.old HBW.out)
      have HDB : Hid (∀ n, Below w3.heap.size w3 (w3.drewN n)) := fun n => ⟨rfl, rfl, rfl, Nat.le_refl _, fun _ _ => rfl⟩
      go_loopw [4, 7, 8] (fun r i k wr => ∃ (a n : Nat), a ≤ M.length ∧ i = .int .i64 a ∧ wr = w3.drewN n ∧ Hid (∀ (j1 j2 : Nat) (u v : Lp), j1 < j2 → j2 < a → M[j1]? = some u → M[j2]? = some v → u.key ≠ v.key)) (fun _ i _ _ => M.length - (intOf i).toNat)
      case atStart => exact ⟨0, 0, by omega, rfl, rfl, fun j1 j2 u v h1 h2 => by omega⟩
      case round =>
        obtain ⟨a, n, ha, rfl, rfl, HD⟩ := hrel
        by_cases hlt : a < M.length
        · have hv := List.getElem?_eq_getElem hlt
          generalize M[a] = m at *
          obtain ⟨b, off, rfl, d1, d2, d3⟩ := HXM.out.get hv
          have hrm := HXM.out.at hv
          have HV := hid hv
          have HRM := hid hrm
          clear hv hrm
          go_wp2_with fail
          go_loopw [4, 8] (fun r k wr => ∃ (q n : Nat), q ≤ a ∧ k = .int .i64 q ∧ wr = w3.drewN n ∧ Hid (∀ (j : Nat) (u : Lp), j < q → M[j]? = some u → u.key ≠ m.key)) (fun _ k _ => a - (intOf k).toNat)
          case atStart => exact ⟨0, n, by omega, rfl, rfl, fun j u h => by omega⟩
          case round =>
            obtain ⟨q, n2, hq, rfl, rfl, HQ⟩ := hrel
            by_cases hlq : q < a
            · have hvq : M[q]? = some (M[q]'(by omega)) := List.getElem?_eq_getElem (by omega)
              generalize M[q] = u at *
              obtain ⟨b2, off2, hbo, g1, g2, g3⟩ := HXM.out.get hvq
              simp only [Option.some.injEq, Addr.mk.injEq, and_true] at hbo
              obtain ⟨rfl, rfl⟩ := hbo
              have hru := HXM.out.at hvq
              have HVQ := hid hvq
              have C := fun a => (pbytes_any (.slice m.ka m.key.length m.kc) (.slice u.ka u.key.length u.kc) m.key u.key (w3.drewN (n2 + a)) (show Rd (w3.drewN (n2 + a)) _ _ from HRM.out.1) (show Rd (w3.drewN (n2 + a)) _ _ from hru.1)).mono (R' := fun e w'' => e = Ending.returned (.bool (m.key == u.key)) ∧ ∃ m, w'' = w3.drewN (n2 + m)) fun _ _ h => ⟨h.1, a, h.2⟩
              clear hvq hru
              cases hmu : m.key == u.key with
              | true =>
                rw [hmu] at C
                go_wp2_with fail
                go_quiet ((go_at_call 26; exact C _))
                rename_i nq
                go_wp2_with fail
                refine ⟨_, results_tmp rfl _ _ _, rfl, ?_⟩
                exact HBW.out.trans (Below.mono ⟨rfl, rfl, rfl, Nat.le_refl _, fun _ _ => rfl⟩ HBW.out.size)
              | false =>
                rw [hmu] at C
                go_wp2_with fail
                go_quiet ((go_at_call 26; exact C _))
                rename_i nq
                go_wp2_with fail
                go_roundw
                case rel =>
                  refine ⟨q + 1, n2 + nq, by omega, by go_num, by first | rfl | rw [World.drewN_drewN], fun j x hj hx => ?_⟩
                  by_cases hjq : j < q
                  · exact HQ.out j x hjq hx
                  · obtain rfl : j = q := by omega
                    rw [HVQ.out] at hx
                    cases hx
                    exact fun e => by rw [e] at hmu; simp at hmu
                case measure => simp [intOf]; omega
            · obtain rfl : q = a := by omega
              go_wp2_with fail
              go_roundw
              case rel =>
                refine ⟨q + 1, n2, by omega, by go_num, rfl, fun j1 j2 x y h1 h2 hx hy => ?_⟩
                by_cases hj : j2 < q
                · exact HD.out j1 j2 x y h1 hj hx hy
                · obtain rfl : j2 = q := by omega
                  rw [HV.out] at hy
                  cases hy
                  exact HQ.out j1 x h1 hx
              case measure => simp [intOf]; omega
        · obtain rfl : a = M.length := by omega
          have HM1d : Hid (Mp w.heap.size (w3.drewN n) w.heap.size (.slice none 0 0) []) := HM1.out.old (HDB.out n)
          have HM2d : Hid (Mp w.heap.size (w3.drewN n) w1.heap.size (.slice none 0 0) []) := HM2.out.old (HDB.out n)
          have HBd : Hid (Below w.heap.size w (w3.drewN n)) := HBW.out.trans ((HDB.out n).mono HBW.out.size)
          generalize w3.drewN n = w4 at *
          go_wp2_with fail
          obtain ⟨t, HTN⟩ := turn_number z M.length h80 (by omega)
          have HTN := hid HTN
          go_loopw [4, 9, 10] (fun r i k wr => ∃ (n : Nat) (vA vB : Value) (GA GB : List Pg), n ≤ M.length ∧ i = .int .i64 n ∧ Hid (Two w M t n w.heap.size w1.heap.size vA vB GA GB wr)) (fun _ i _ _ => M.length - (intOf i).toNat)
          case atStart => exact ⟨0, _, _, [], [], by omega, rfl, HBd.out, Has.nil HM1d.out, Has.nil HM2d.out, (fun k h1 h2 => by have h9 := HAB.out; rcases h1 with h1 | h1 <;> rcases h2 with h2 | h2 <;> first | omega | (simp [Value.ownBlock] at h1; done) | (simp [Value.ownBlock] at h2; done)), (fun g hg => by cases hg), (fun g hg => by cases hg)⟩
          case round =>
            obtain ⟨n, vA, vB, GA, GB, hn, rfl, HTW⟩ := hrel
            by_cases hlt : n < M.length
            · have hv := List.getElem?_eq_getElem hlt
              generalize M[n] = m at *
              obtain ⟨kk, hkk⟩ : ∃ kk, kk = (n + t) % M.length := ⟨_, rfl⟩
              have hkl : kk < M.length := by rw [hkk]; exact Nat.mod_lt _ (by omega)
              have hu : M[kk]? = some (M[kk]'hkl) := List.getElem?_eq_getElem hkl
              generalize M[kk] = u at *
              have hbr := HTW.out.below
              obtain ⟨b, off, rfl, d1, d2, d3⟩ := (HX.out.old hbr).get hv
              obtain ⟨b2, off2, hbo, g1, g2, g3⟩ := (HX.out.old hbr).get hu
              simp only [Option.some.injEq, Addr.mk.injEq, and_true] at hbo
              obtain ⟨rfl, rfl⟩ := hbo
              have hm0 := HX.out.at hv
              have hu0 := HX.out.at hu
              have o1 := one_rd hm0.1
              have o2 := one_rd hm0.2
              have o3 := one_rd hu0.1
              have o4 := one_rd hu0.2
              have HV := hid hv
              have HU := hid hu
              have HM0 := hid hm0
              have HU0 := hid hu0
              have hki : ((kk : Int) < (M.length : Int)) := by omega
              have HTNn : (wrap64 ((n : Int) + wrap64 ((IntKind.u64.wrap z).tmod (M.length : Int)))).tmod (M.length : Int) = (kk : Int) := by rw [hkk]; exact HTN.out n (by omega)
              have HKK := hid hkk
              have HS : Hid (∀ W, Below w.heap.size w W → (Hid (Below w.heap.size w W) ∧ W.cell? ⟨b, off + n * 3, none⟩ = some (.slice m.ka m.key.length m.kc) ∧ W.cell? ⟨b, off + n * 3 + 1, none⟩ = some (.slice m.va m.val.length m.vc) ∧ W.cell? ⟨b, off + n * 3 + 2, none⟩ = some (.int .i64 m.ver) ∧
                  W.cell? ⟨b, off + kk * 3, none⟩ = some (.slice u.ka u.key.length u.kc) ∧ W.cell? ⟨b, off + kk * 3 + 1, none⟩ = some (.slice u.va u.val.length u.vc) ∧ W.cell? ⟨b, off + kk * 3 + 2, none⟩ = some (.int .i64 u.ver))) := fun W h => by
                obtain ⟨b3, off3, e3, a1, a2, a3⟩ := (HX.out.old h).get HV.out
                obtain ⟨b4, off4, e4, a4, a5, a6⟩ := (HX.out.old h).get HU.out
                cases e3
                cases e4
                exact ⟨h, a1, a2, a3, a4, a5, a6⟩
              have CPA : Hid (Calls Try.prog 20 #[.pointer (some ⟨w.heap.size, 0, none⟩), .agg #[.slice m.ka m.key.length m.kc, .slice m.va m.val.length m.vc, .int .i64 m.ver]] wr.drew (fun e w' => e = .returned (.int .i64 (mayE m)) ∧ ∃ m' v' G', Alike m' m ∧ Turned w.heap.size w.heap.size vA GA (if mayE m = 0 then putM (mls GA).flatten m' else (mls GA).flatten) wr.drew w' v' G')) :=
                put_all w.heap.size w.heap.size vA GA m wr.drew (HTW.out.a.mp.old (Below.refl _ _).drew) HTW.out.a.fit (hm0.old (hbr.trans ((Below.refl _ _).drew))) (by have := HTW.out.a.len; omega)
              have CM : Hid (∀ W, Below w.heap.size w W → Calls Try.prog 21 #[.agg #[.slice m.ka m.key.length m.kc, .slice m.va m.val.length m.vc, .int .i64 m.ver]] W (AnsP W (.int .i64 (mayE m)))) := fun W h => may_any m W (HM0.out.old h)
              have CU : Hid (∀ W, Below w.heap.size w W → Calls Try.prog 21 #[.agg #[.slice u.ka u.key.length u.kc, .slice u.va u.val.length u.vc, .int .i64 u.ver]] W (AnsP W (.int .i64 (mayE u)))) := fun W h => may_any u W (HU0.out.old h)
              have CPB : Hid (∀ W, Mp w.heap.size W w1.heap.size vB GB → Below w.heap.size w W → Calls Try.prog 20 #[.pointer (some ⟨w1.heap.size, 0, none⟩), .agg #[.slice u.ka u.key.length u.kc, .slice u.va u.val.length u.vc, .int .i64 u.ver]] W (fun e w' => e = .returned (.int .i64 (mayE u)) ∧ ∃ m' v' G', Alike m' u ∧ Turned w.heap.size w1.heap.size vB GB (if mayE u = 0 then putM (mls GB).flatten m' else (mls GB).flatten) W w' v' G')) := fun W hM h =>
                put_all w.heap.size w1.heap.size vB GB u W hM HTW.out.b.fit (HU0.out.old h) (by have := HTW.out.b.len; omega)
              have HBR := hid hbr
              have HB0 : Hid (Below w.heap.size w wr.drew) := hbr.trans ((Below.refl _ _).drew)
              have HTD : Hid (Two w M t n w.heap.size w1.heap.size vA vB GA GB wr.drew) := HTW.out.old ((Below.refl _ _).drew)
              clear hv hu hm0 hu0 hkk hbr
              go_upto_region 16 with fail
              go_region_held3 (fun W => Hid (Below w.heap.size w W) ∧ W.cell? ⟨b, off + n * 3, none⟩ = some (.slice m.ka m.key.length m.kc) ∧ W.cell? ⟨b, off + n * 3 + 1, none⟩ = some (.slice m.va m.val.length m.vc) ∧ W.cell? ⟨b, off + n * 3 + 2, none⟩ = some (.int .i64 m.ver) ∧
                  W.cell? ⟨b, off + kk * 3, none⟩ = some (.slice u.ka u.key.length u.kc) ∧ W.cell? ⟨b, off + kk * 3 + 1, none⟩ = some (.slice u.va u.val.length u.vc) ∧ W.cell? ⟨b, off + kk * 3 + 2, none⟩ = some (.int .i64 u.ver))
                (first | (go_split_ands; first | exact HS.out _ (Hid.out HB5) | exact HS.out _ (Hid.out HB4) | exact HS.out _ (Hid.out HB3) | exact HS.out _ (Hid.out HB1) | exact HS.out _ (Hid.out HB0)) | go_keep)
                (first
                  | (go_at_call 20; go_split_ands; refine (CPB.out _ (HTD.out.mid HT1.out HY1.out).1 HB3.out).mono ?_; rintro e wC ⟨rfl, u1, vB1, GB1, hal2, ht2⟩; have HT2 := hid ht2; have HAL2 := hid hal2; have HB4 : Hid (Below w.heap.size w wC) := HB3.out.trans (ht2.keep.below (HTD.out.mid HT1.out HY1.out).1.base_le (HTD.out.mid HT1.out HY1.out).1.mx_lo); clear ht2 hal2)
                  | (go_at_call 20; go_split_ands; refine CPA.out.mono ?_; rintro e wA ⟨rfl, m1, vA1, GA1, hal1, ht1⟩; have HT1 := hid ht1; have HAL1 := hid hal1; have HB1 : Hid (Below w.heap.size w wA) := HB0.out.trans (ht1.keep.below HTD.out.a.mp.base_le HTD.out.a.mp.mx_lo); clear ht1 hal1)
                  | (go_at_call 21; go_split_ands; refine (CU.out _ HB4.out).mono ?_; rintro e wD ⟨rfl, hy2⟩; have HY2 := hid hy2; have HB5 : Hid (Below w.heap.size w wD) := HB4.out.trans (hy2.mono HB4.out.size); clear hy2)
                  | (go_at_call 21; go_split_ands; refine (CM.out _ HB1.out).mono ?_; rintro e wB ⟨rfl, hy1⟩; have HY1 := hid hy1; have HB3 : Hid (Below w.heap.size w wB) := HB1.out.trans (hy1.mono HB1.out.size); clear hy1))
              have hnx : Two w M t (n + 1) w.heap.size w1.heap.size vA1 vB1 GA1 GB1 wD := HTD.out.step HV.out (by rw [← HKK.out]; exact HU.out) (fun j x hj hx => HD.out j n x m hj hlt hx HV.out) (fun j x hj hx => by
                have hne : (j + t) % M.length ≠ (n + t) % M.length := mod_ne hj hlt
                rw [← HKK.out] at hne
                have h1 := (List.getElem?_eq_some_iff.1 hx).1
                rcases Nat.lt_or_gt_of_ne hne with h2 | h2
                · exact HD.out _ _ x u h2 hkl hx HU.out
                · exact (HD.out _ _ u x h2 h1 HU.out hx).symm) HAL1.out HT1.out HY1.out HAL2.out HT2.out HY2.out
              have HNX := hid hnx
              clear hnx
              go_wp2_with fail
              go_roundw
              case rel => exact ⟨n + 1, vA1, vB1, GA1, GB1, by omega, by go_num, HNX⟩
              case measure => simp [intOf]; omega
            · obtain rfl : n = M.length := by omega
              have hfA := HTW.out.a.len
              have hfB := HTW.out.b.len
              have hgA : GA.length ≤ 10000 := by
                have h1 := len_flat (mls GA) (fun g hg => (HTW.out.a.fit.ok g hg).1)
                rw [mls_len] at h1
                omega
              have hgB : GB.length ≤ 10000 := by
                have h1 := len_flat (mls GB) (fun g hg => (HTW.out.b.fit.ok g hg).1)
                rw [mls_len] at h1
                omega
              have hsameAB := has_same HTW.out.a HTW.out.b (by omega)
              have htot : total GA = total GB := by
                have := congrArg List.length hsameAB
                simp only [List.length_map] at this
                exact this
              have HSAB := hid hsameAB
              have HTOT := hid htot
              have hb5 : Below wr.heap.size wr ((wr.alloc (.cells #[.slice none 0 0] 29)).alloc (.cells #[.slice none 0 0] 29)) := ((Below.refl _ _).alloc (Nat.le_refl _) _).alloc (by simp) _
              have hx5 : ((wr.alloc (.cells #[.slice none 0 0] 29)).alloc (.cells #[.slice none 0 0] 29)).heap[wr.heap.size]? = some (.cells #[.slice none 0 0] 29 (0, 0)) := (Below.heap_alloc _ _ _ (by simp)).trans (heap_alloc_new _ _)
              have hy5 : ((wr.alloc (.cells #[.slice none 0 0] 29)).alloc (.cells #[.slice none 0 0] 29)).heap[wr.heap.size + 1]? = some (.cells #[.slice none 0 0] 29 (0, 0)) := heap_alloc2_new _ _ _
              have hs5 : wr.heap.size + 2 ≤ ((wr.alloc (.cells #[.slice none 0 0] 29)).alloc (.cells #[.slice none 0 0] 29)).heap.size := by simp
              have HB5 := hid hb5
              have HX5 := hid hx5
              have HY5 := hid hy5
              have HS5 := hid hs5
              have hbw := HTW.out.below
              have HBW5 : Hid (Below w.heap.size w ((wr.alloc (.cells #[.slice none 0 0] 29)).alloc (.cells #[.slice none 0 0] 29))) := hbw.trans (hb5.mono hbw.size)
              clear hb5 hx5 hy5 hs5 hsameAB htot
              go_upto_region 19 with fail
              generalize ((wr.alloc (.cells #[.slice none 0 0] 29)).alloc (.cells #[.slice none 0 0] 29)) = w5 at *
              have CS1 : Hid (Calls Try.prog 27 #[.pointer (some ⟨w.heap.size, 0, none⟩), .agg #[.slice none 0 0, .slice none 0 0], .bool false] w5 (ScanA GA [] [] false w5)) :=
                scan_any _ _ _ GA [] [] false w5 (MapR.of (HTW.out.a.mp.old HB5.out)) (Rd.nil _) (Rd.nil _) HTW.out.a.fit.ord (fun g hg => by have := (HTW.out.a.fit.ok _ (mls_mem hg)).2.1; omega) hgA
              go_wp2_with (first | (go_at_call 27; refine CS1.out.mono ?_))
              rintro e w6 ⟨p, i, p', i', bb, ao, H, hn9, c, rfl, hp, rfl, hH, hpg, hao, hfr, hbox, hbb, hbel⟩
              have hfl : (mls H).flatten = (mls GA).flatten := by rw [span_flat hp hH]; exact span_all _
              have hb1 : bb < w6.heap.size := lt_of_block hbox
              have hsz6 : w5.heap.size ≤ w6.heap.size := hbel.size
              have hs5' := HS5.out
              have hne1 : bb ≠ wr.heap.size := by omega
              have hKH : Hid (∀ W, KpX wr.heap.size w6.heap.size w6 W → W.cell? ⟨bb, 0, none⟩ = some (.slice ao H.length c) ∧ Pgs W (.slice ao H.length c) H) := fun W h => by
                refine ⟨cell_of0 ((h.block bb hb1 hne1).trans hbox), hpg.1.keep h.keep (fun _ k hk => ?_), fun g hg => (hpg.2 g hg).keep h.keep (fromG_off HTW.out.a.fit HTW.out.a.mp.each (fun k hk => by omega) (hfr g hg))⟩
                obtain ⟨a, e1, rfl⟩ := blk_of hk
                have := hao a e1
                omega
              obtain ⟨hH8, hHl, hHb, hML⟩ := scan_has HTW.out.a.fit hp hH hfr hgA (fun m hm => may_bytes (HTW.out.a.may m hm))
              have hbx6 : Boxed w6 wr.heap.size 29 (.slice none 0 0) := (hbel.block _ (by omega)).trans HX5.out
              have HY6 : Hid (w6.heap[wr.heap.size + 1]? = some (.cells #[.slice none 0 0] 29 (0, 0))) := (hbel.block _ (by omega)).trans HY5.out
              have HSQ := hid (rising_seq (9 - 1) (by omega) bb w6.heap.size ao c H w6 hH8 hHl hHb (KpX wr.heap.size w6.heap.size) (KpX.refl _ _) (fun h k => h.trans k) (fun h => h.size) (fun h k => KpX.of k h) (Nat.le_refl _) hKH.out)
              have HBR6 : Hid (Below wr.heap.size wr w6) := HB5.out.trans (hbel.mono HB5.out.size)
              have HBLT_w6 : Hid (wr.heap.size + 1 < w6.heap.size) := by show _ < _; omega
              have HFL := hid hfl
              clear hp hH hpg hao hfr hbox hbb hbel hKH hH8 hHl hHb hfl hne1 hb1 CS1 hs5'
              simp only [Bool.false_eq_true, if_false]
              go_wp2_with fail
              refine wpIn_wide.1 (range_outer (n := 9) rfl (by omega) (gf := 54) (lb := #[.pointer (some ⟨bb, 0, none⟩)]) ?hg trivial (enters_of Try.func54 (by kernel_rfl) rfl)
                HSQ.out (fun h k => h.trans k) (fun W W' l hl ht => KpX.turn ht hl) (Below.refl _ _) (fun _ => rfl)
                (Col wr.heap.size w6.heap.size w6) (fun _ _ _ => False) (Col.own (Nat.le_refl _) (Nat.le_refl _)) (fun c pre W W' row hs _ _ => hs)
                ⟨⟨_, hbx6, World.ownsRow_nil _ _ _ _⟩, (fun m hm => by cases hm), KpX.refl _ _ _⟩
                ?roundA ?doneA (fun D c pre W _ _ h _ => h.elim))
              case hg => rfl
              case roundA =>
                intro l pre m W hl hr hcol hx
                have o1 := one_rd hx.1.rd.1
                have o2 := one_rd hx.1.rd.2
                have hlen : pre.length < (mls H).flatten.length := by
                  obtain ⟨_, q, hq, _⟩ := hx
                  exact (List.getElem?_eq_some_iff.1 hq).1
                have HX := hid hx.1
                have HC := hid hcol
                have hsW : w6.heap.size ≤ W.heap.size := hcol.keep.size
                clear hx hcol hr
                unfold pv
                gi_wp2
                have hbA : Below W.heap.size W (W.alloc (.cells #[.slice m.ka m.key.length m.kc, .slice m.va m.val.length m.vc, .int .i64 m.ver] 31)) := (Below.refl _ _).alloc (Nat.le_refl _) _
                have hxA : (W.alloc (.cells #[.slice m.ka m.key.length m.kc, .slice m.va m.val.length m.vc, .int .i64 m.ver] 31)).heap[W.heap.size]? = some (.cells #[.slice m.ka m.key.length m.kc, .slice m.va m.val.length m.vc, .int .i64 m.ver] 31 (0, 0)) := heap_alloc_new _ _
                refine ⟨kf_below hbA, KpX.of hbA hsW, fun Wb hT => ?_⟩
                generalize W.alloc (.cells #[.slice m.ka m.key.length m.kc, .slice m.va m.val.length m.vc, .int .i64 m.ver] 31) = WA at *
                have hcA := HC.out.old (Nat.le_refl _) hbA
                have hmA : Mine w6.heap.size WA m := HX.out.old hbA
                have hsA : w6.heap.size ≤ WA.heap.size := Nat.le_trans hsW hbA.size
                have hTn : ∀ r, (some l : Option Nat) = some r → w6.heap.size ≤ r ∧ ∃ o : Obj, WA.heap[r]? = some o ∧ o.isCells = false := fun r e => by cases e; exact ⟨hl, hT.old⟩
                have HCb : Hid (Col wr.heap.size w6.heap.size w6 pre Wb) := hcA.grown hsA hT.grown hTn
                have HMb : Hid (Mine w6.heap.size Wb m) := by
                  obtain ⟨o, ho, hc⟩ := hT.old
                  exact hmA.kept hT.grown (own_ne_block hmA.k ho (fun cur e => by rw [e] at hc; cases hc)) (own_ne_block hmA.v ho (fun cur e => by rw [e] at hc; cases hc))
                have hxB : Wb.heap[W.heap.size]? = some (.cells #[.slice m.ka m.key.length m.kc, .slice m.va m.val.length m.vc, .int .i64 m.ver] 31 (0, 0)) := heap_kept hT.grown hxA (fun e9 => by
                  cases e9
                  obtain ⟨o, ho, hc⟩ := hT.old
                  rw [hxA] at ho
                  cases ho
                  cases hc)
                obtain ⟨p0, p1, p2, -, -, -⟩ := three_cells hxB
                obtain ⟨v0, hbv, hrow⟩ := HCb.out.row
                have hsb : w6.heap.size ≤ Wb.heap.size := HCb.out.keep.size
                have q0 := hbv.cell
                obtain ⟨v', w3, hrun, hown', hgrow, -⟩ := run_append_new (P := Try.prog) (w := Wb.alloc (.cells (rowP m).toArray 31)) w6.heap.size 29 29 31 3 56 Try.underlying29 _ info_pair (by decide) (by decide) v0 pre.length _ (hrow.alloc _)
                  (.slice (some ⟨Wb.heap.size, 0, none⟩) 1 1) [rowP m] (Rws.one rfl HMb.out.rd.wide) (by simp; omega) (by unfold maxLen; simp; omega) (by simp; omega)
                obtain ⟨a1, a2, a3, a4⟩ := Col.add HCb.out (Nat.le_refl _) (by have := HBLT_w6.out; omega) HMb.out hbv hrow (by simpa using hown') hgrow
                have q1 := a1.cell
                have q2 := a1.frozen
                have A2 := hid a2
                have A3 := hid a3
                have A4 := hid a4
                obtain ⟨g', cap', rfl⟩ := ownsRow_succ (show w3.ownsRow w6.heap.size 31 3 v' (pre.length + 1) _ from hown')
                have hrun' : (Builtin.append_ #[29, 29] 29 #[v0, .slice (some ⟨Wb.heap.size, 0, none⟩) 1 1]).run Try.prog (Wb.alloc (.cells #[.slice m.ka m.key.length m.kc, .slice m.va m.val.length m.vc, .int .i64 m.ver] 31)) = .ok (.slice (some ⟨g', 0, none⟩) (pre.length + 1) cap') w3 := hrun
                clear hrun
                clear a1 a2 a3 a4 hown' hgrow hrow hbv hcA hmA hTn hT hxA hxB hbA
                have HRUN := hid hrun'
                clear hrun'
                gi_wp2_with (gi_at_builtin; refine wpListIn_app _ rfl _ _ 29 rfl _ _ _ _ rfl rfl HRUN.out ?_)
                gi_wp2
                exact ⟨A3.out.from _, A4.out, A2.out⟩
              case doneA =>
                intro D1 xs W hD1 hS hcol hK1
                rw [HFL.out] at hS
                obtain ⟨v1, hbv, hrow⟩ := hcol.row
                have hprs : Prs W v1 xs := Prs.own hrow (fun m hm => (hcol.each m hm).rd)
                obtain ⟨xa, xc1, rfl, -⟩ := hprs.form
                have hrd : RdG W ⟨xa, xc1, xs⟩ := hprs
                have hoM : OffG (fun k => k = wr.heap.size + 1) ⟨xa, xc1, xs⟩ := ⟨fun _ a ha hk => by have := (hrow.lt a.block (by rw [show xa = some a from ha]; rfl)).1; have := HBLT_w6.out; omega, fun m hm => ⟨fun _ a ha hk => by have := ((hcol.each m hm).newp).1 a ha; have := HBLT_w6.out; omega, fun _ a ha hk => by have := ((hcol.each m hm).newp).2 a ha; have := HBLT_w6.out; omega⟩⟩
                have hkp := hcol.keep
                have hsW : w6.heap.size ≤ W.heap.size := hkp.size
                have hlt6 := HBLT_w6.out
                have HBRW : Hid (Below wr.heap.size wr W) := HBR6.out.trans (hkp.below (by omega) (Nat.le_refl _))
                have HYW : Hid (W.heap[wr.heap.size + 1]? = some (.cells #[.slice none 0 0] 29 (0, 0))) := (hkp.block _ hlt6 (by omega)).trans HY6.out
                have HRDX := hid hrd
                have HOMX := hid hoM
                have HXBW := hid hbv
                have HSX := hid hS
                have HK1 := hid hK1
                have HD1 := hid hD1
                clear hcol hrow hprs hrd hoM hkp hbv hS hK1 hD1
                have CS2 : Hid (Calls Try.prog 27 #[.pointer (some ⟨w1.heap.size, 0, none⟩), .agg #[.slice none 0 0, .slice none 0 0], .bool false] W (ScanA GB [] [] false W)) :=
                  scan_any _ _ _ GB [] [] false W (MapR.of (HTW.out.b.mp.old HBRW.out)) (Rd.nil _) (Rd.nil _) HTW.out.b.fit.ord (fun g hg => by have := (HTW.out.b.fit.ok _ (mls_mem hg)).2.1; omega) hgB
                go_wp2_with (first | (go_at_call 27; refine CS2.out.mono ?_))
                rintro e w7 ⟨p, i, p', i', b2, ao2, H2, hn2, c2, rfl, hp, rfl, hH, hpg, hao, hfr, hbox, hbb, hbel⟩
                have hfl : (mls H2).flatten = (mls GB).flatten := by rw [span_flat hp hH]; exact span_all _
                have hb1 : b2 < w7.heap.size := lt_of_block hbox
                have hsz7 : W.heap.size ≤ w7.heap.size := hbel.size
                have hne1 : b2 ≠ wr.heap.size + 1 := by omega
                have hKH : Hid (∀ Z, KpX (wr.heap.size + 1) w7.heap.size w7 Z → Z.cell? ⟨b2, 0, none⟩ = some (.slice ao2 H2.length c2) ∧ Pgs Z (.slice ao2 H2.length c2) H2) := fun Z h => by
                  refine ⟨cell_of0 ((h.block b2 hb1 hne1).trans hbox), hpg.1.keep h.keep (fun _ k hk => ?_), fun g hg => (hpg.2 g hg).keep h.keep (fromG_off HTW.out.b.fit HTW.out.b.mp.each (fun k hk => by omega) (hfr g hg))⟩
                  obtain ⟨a, e1, rfl⟩ := blk_of hk
                  have := hao a e1
                  omega
                obtain ⟨hH8, hHl, hHb, hML⟩ := scan_has HTW.out.b.fit hp hH hfr hgB (fun m hm => may_bytes (HTW.out.b.may m hm))
                have hbx7 : Boxed w7 (wr.heap.size + 1) 29 (.slice none 0 0) := (hbel.block _ (by omega)).trans HYW.out
                have HXB7 : Hid (w7.heap[wr.heap.size]? = some (.cells #[.slice xa xs.length xc1] 29 (0, 0))) := (hbel.block _ (by omega)).trans HXBW.out
                have HRDX7 : Hid (RdG w7 ⟨xa, xc1, xs⟩) := HRDX.out.old hbel
                have HK71 : Hid (w7.heap[D1]? = some (.deferred (some []))) := (hbel.block _ (lt_of_block HK1.out)).trans HK1.out
                have HSQ2 := hid (rising_seq (9 - 1) (by omega) b2 w7.heap.size ao2 c2 H2 w7 hH8 hHl hHb (KpX (wr.heap.size + 1) w7.heap.size) (KpX.refl _ _) (fun h k => h.trans k) (fun h => h.size) (fun h k => KpX.of k h) (Nat.le_refl _) hKH.out)
                have HBR7 : Hid (Below wr.heap.size wr w7) := HBRW.out.trans (hbel.mono HBRW.out.size)
                have HBLT_w7 : Hid (wr.heap.size + 1 < w7.heap.size) := by show _ < _; omega
                have HFL2 := hid hfl
                have HWZ : Hid (W.heap.size ≤ w7.heap.size) := hsz7
                clear hp hH hpg hao hfr hbox hbb hbel hKH hH8 hHl hHb hfl hne1 hb1 CS2 hlt6
                simp only [Bool.false_eq_true, if_false]
                go_wp2_with fail
                refine wpIn_wide.1 (range_outer (n := 9) rfl (by omega) (gf := 54) (lb := #[.pointer (some ⟨b2, 0, none⟩)]) ?hg2 trivial (enters_of Try.func54 (by kernel_rfl) rfl)
                  HSQ2.out (fun h k => h.trans k) (fun W W' l hl ht => KpX.turn ht hl) (Below.refl _ _) (fun _ => rfl)
                  (Col (wr.heap.size + 1) w7.heap.size w7) (fun _ _ _ => False) (Col.own (Nat.le_refl _) (Nat.le_refl _)) (fun c pre W W' row hs _ _ => hs)
                  ⟨⟨_, hbx7, World.ownsRow_nil _ _ _ _⟩, (fun m hm => by cases hm), KpX.refl _ _ _⟩
                  ?roundB ?doneB (fun D c pre W _ _ h _ => h.elim))
                case hg2 => rfl
                case roundB =>
                  intro l pre m W hl hr hcol hx
                  have o1 := one_rd hx.1.rd.1
                  have o2 := one_rd hx.1.rd.2
                  have hlen : pre.length < (mls H2).flatten.length := by
                    obtain ⟨_, q, hq, _⟩ := hx
                    exact (List.getElem?_eq_some_iff.1 hq).1
                  have HX := hid hx.1
                  have HC := hid hcol
                  have hsW : w7.heap.size ≤ W.heap.size := hcol.keep.size
                  clear hx hcol hr
                  unfold pv
                  gi_wp2
                  have hbA : Below W.heap.size W (W.alloc (.cells #[.slice m.ka m.key.length m.kc, .slice m.va m.val.length m.vc, .int .i64 m.ver] 31)) := (Below.refl _ _).alloc (Nat.le_refl _) _
                  have hxA : (W.alloc (.cells #[.slice m.ka m.key.length m.kc, .slice m.va m.val.length m.vc, .int .i64 m.ver] 31)).heap[W.heap.size]? = some (.cells #[.slice m.ka m.key.length m.kc, .slice m.va m.val.length m.vc, .int .i64 m.ver] 31 (0, 0)) := heap_alloc_new _ _
                  refine ⟨kf_below hbA, KpX.of hbA hsW, fun Wb hT => ?_⟩
                  generalize W.alloc (.cells #[.slice m.ka m.key.length m.kc, .slice m.va m.val.length m.vc, .int .i64 m.ver] 31) = WA at *
                  have hcA := HC.out.old (Nat.le_refl _) hbA
                  have hmA : Mine w7.heap.size WA m := HX.out.old hbA
                  have hsA : w7.heap.size ≤ WA.heap.size := Nat.le_trans hsW hbA.size
                  have hTn : ∀ r, (some l : Option Nat) = some r → w7.heap.size ≤ r ∧ ∃ o : Obj, WA.heap[r]? = some o ∧ o.isCells = false := fun r e => by cases e; exact ⟨hl, hT.old⟩
                  have HCb : Hid (Col (wr.heap.size + 1) w7.heap.size w7 pre Wb) := hcA.grown hsA hT.grown hTn
                  have HMb : Hid (Mine w7.heap.size Wb m) := by
                    obtain ⟨o, ho, hc⟩ := hT.old
                    exact hmA.kept hT.grown (own_ne_block hmA.k ho (fun cur e => by rw [e] at hc; cases hc)) (own_ne_block hmA.v ho (fun cur e => by rw [e] at hc; cases hc))
                  have hxB : Wb.heap[W.heap.size]? = some (.cells #[.slice m.ka m.key.length m.kc, .slice m.va m.val.length m.vc, .int .i64 m.ver] 31 (0, 0)) := heap_kept hT.grown hxA (fun e9 => by
                    cases e9
                    obtain ⟨o, ho, hc⟩ := hT.old
                    rw [hxA] at ho
                    cases ho
                    cases hc)
                  obtain ⟨p0, p1, p2, -, -, -⟩ := three_cells hxB
                  obtain ⟨v0, hbv, hrow⟩ := HCb.out.row
                  have hsb : w7.heap.size ≤ Wb.heap.size := HCb.out.keep.size
                  have q0 := hbv.cell
                  obtain ⟨v', w3, hrun, hown', hgrow, -⟩ := run_append_new (P := Try.prog) (w := Wb.alloc (.cells (rowP m).toArray 31)) w7.heap.size 29 29 31 3 56 Try.underlying29 _ info_pair (by decide) (by decide) v0 pre.length _ (hrow.alloc _)
                    (.slice (some ⟨Wb.heap.size, 0, none⟩) 1 1) [rowP m] (Rws.one rfl HMb.out.rd.wide) (by simp; omega) (by unfold maxLen; simp; omega) (by simp; omega)
                  obtain ⟨a1, a2, a3, a4⟩ := Col.add HCb.out (Nat.le_refl _) (by have := HBLT_w7.out; omega) HMb.out hbv hrow (by simpa using hown') hgrow
                  have q1 := a1.cell
                  have q2 := a1.frozen
                  have A2 := hid a2
                  have A3 := hid a3
                  have A4 := hid a4
                  obtain ⟨g', cap', rfl⟩ := ownsRow_succ (show w3.ownsRow w7.heap.size 31 3 v' (pre.length + 1) _ from hown')
                  have hrun' : (Builtin.append_ #[29, 29] 29 #[v0, .slice (some ⟨Wb.heap.size, 0, none⟩) 1 1]).run Try.prog (Wb.alloc (.cells #[.slice m.ka m.key.length m.kc, .slice m.va m.val.length m.vc, .int .i64 m.ver] 31)) = .ok (.slice (some ⟨g', 0, none⟩) (pre.length + 1) cap') w3 := hrun
                  clear hrun
                  clear a1 a2 a3 a4 hown' hgrow hrow hbv hcA hmA hTn hT hxA hxB hbA
                  have HRUN := hid hrun'
                  clear hrun'
                  gi_wp2_with (gi_at_builtin; refine wpListIn_app _ rfl _ _ 29 rfl _ _ _ _ rfl rfl HRUN.out ?_)
                  gi_wp2
                  exact ⟨A3.out.from _, A4.out, A2.out⟩
                case doneB =>
                  intro D2 ys Z hD2 hS2 hcol hK2
                  rw [HFL2.out] at hS2
                  obtain ⟨v2, hbv, hrow⟩ := hcol.row
                  have hprs : Prs Z v2 ys := Prs.own hrow (fun m hm => (hcol.each m hm).rd)
                  obtain ⟨ya, yc1, rfl, -⟩ := hprs.form
                  have hkp := hcol.keep
                  have hlt7 := HBLT_w7.out
                  have hBRZ : Below wr.heap.size wr Z := HBR7.out.trans (hkp.below (by omega) (by omega))
                  have hxZ : Z.heap[wr.heap.size]? = some (.cells #[.slice xa xs.length xc1] 29 (0, 0)) := (hkp.block _ (by omega) (by omega)).trans HXB7.out
                  have hrdZ : RdG Z ⟨xa, xc1, xs⟩ := HRDX7.out.keep hkp.keep HOMX.out
                  have hd1 : D1 < w7.heap.size := lt_of_block HK71.out
                  have hd6 := HD1.out
                  have hlt6 := HBLT_w6.out
                  have hKZ1 : Z.heap[D1]? = some (.deferred (some [])) := (hkp.block _ hd1 (by omega)).trans HK71.out
                  have hsame : xs.map lg = ys.map lg := by rw [HSX.out, hS2, HSAB.out]
                  have CLA := len_any (.pointer (some ⟨w.heap.size, 0, none⟩)) GA Z (MapR.of (HTW.out.a.mp.old hBRZ)) (by unfold total; have := HTW.out.a.len; omega) (by omega)
                  have CLB := len_any (.pointer (some ⟨w1.heap.size, 0, none⟩)) GB Z (MapR.of (HTW.out.b.mp.old hBRZ)) (by unfold total; have := HTW.out.b.len; omega) (by omega)
                  rw [HTOT.out] at CLA
                  have CLAH := hid CLA
                  have CLBH := hid CLB
                  have CSM : Hid (Calls Try.prog 15 #[.slice xa xs.length xc1, .slice ya ys.length yc1, .func (.func 17) #[] #[]] Z (AnsP Z (.bool true))) := same_any _ _ xs ys Z hrdZ hprs hsame
                  have r0 := cell_of0 hxZ
                  have r1 := hbv.cell
                  have HKZ1 := hid hKZ1
                  have HKZ2 := hid hK2
                  have HBRZ := hid hBRZ
                  have hne12 : D2 ≠ D1 := by omega
                  have HD2 := hid hD2
                  clear hS2 hcol hrow hprs hbv hkp hBRZ hxZ hrdZ hKZ1 hK2 hsame CLA CLB
                  go_wp2_with (first | (go_at_call 28; refine CLAH.out.mono ?_))
                  rintro e z1 ⟨rfl, hz1⟩
                  subst hz1
                  go_wp2_with (first | (go_at_call 28; refine CLBH.out.mono ?_))
                  rintro e z2 ⟨rfl, hz2⟩
                  subst hz2
                  go_wp2_with (first | (go_at_call 15; refine CSM.out.mono ?_))
                  rintro e z3 ⟨rfl, hz3⟩
                  have HZ3 := hid hz3
                  clear hz3
                  go_wp2_with fail
                  have hbz : Below w.heap.size w z3 := HTW.out.below.trans ((HBRZ.out.trans (HZ3.out.mono HBRZ.out.size)).mono HTW.out.below.size)
                  have ha1 : z3.heap[D2]? = some (.deferred (some [])) := (HZ3.out.block _ (lt_of_block HKZ2.out)).trans HKZ2.out
                  have ha2 : z3.heap[D1]? = some (.deferred (some [])) := (HZ3.out.block _ (lt_of_block HKZ1.out)).trans HKZ1.out
                  have hw1 := HTW.out.below.size
                  have hD1w : w.heap.size ≤ D1 := by have h1 := HD1.out; have h2 := HBR6.out.size; omega
                  have hD2w : w.heap.size ≤ D2 := by have h1 := HD2.out; have h2 := HBR7.out.size; omega
                  refine ⟨by simp, .inl ⟨_, _, rfl, run_takeDeferred ha1, by simp, .inl ⟨_, _, rfl, run_takeDeferred ((World.putObj_heap_other (Ne.symm hne12)).trans ha2), ?_⟩⟩⟩
                  refine ⟨_, results_tmp rfl _ _ _, rfl, ?_⟩
                  exact (hbz.grown (grownBy_putObj' _ D2 _) hbz.size (fun k e => by cases e; exact hD2w)).grown (grownBy_putObj' _ D1 _) (by have := hbz.size; have h9 := (grownBy_putObj' z3 D2 (.deferred none)).size; omega) (fun k e => by cases e; exact hD1w)
    · have e0 : ¬ ((M.length : Int) = 0) := by omega
      have e0' : ((M.length : Int) == 0) = false := by simpa using e0
      have e2 : (80 : Int) < (M.length : Int) := by omega
      have e2' : 80 < M.length := by omega
      go_wp2_with (first | (go_at_call 10; refine CA.out.mono ?_; rintro e w4 ⟨rfl, hb4⟩))
      refine ⟨_, results_tmp rfl _ _ _, rfl, HBW.out.trans (hb4.mono HBW.out.size)⟩

set_option maxRecDepth 100000 in
theorem walk {H : Type} {enc : TypeId × Value → H} {base : Nat} {d0 : DataW H} {p0 : List MemPlace} (v0 : Value) (a1 : Int) (w : World)
    (k0 : Value.okWide Try.prog w .any base 29 v0) (t0 : DataW.Trod enc Try.prog w 0 (fun _ => true) true 29 v0 d0 p0) (w1 : (Lit.int .i64 a1).wf = true) :
    Calls Try.prog 4 #[v0, .int .i64 a1] w fun e w' => e = .returned (.bool true) ∧ Below w.heap.size w w' := by
  obtain ⟨a, len, cap, rfl⟩ := WideShapes.okWide_slice Try.underlying29 k0
  obtain ⟨M, rfl, hM⟩ := pairs_open t0
  exact walk0 _ M a1 w hM w1
end pagesOrder
end Go.Proofs.Ytcgnghkjkdkmmaa
