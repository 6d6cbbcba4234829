/-
  THE LAW PagesTwice: its walk.
-/
import Derived.LoopN
import Derived.Deep.RegionWith
import Derived.Deep.RegionHeld3
import Derived.Test.YtcgnghkjkdkmmaaGfl
import Derived.Test.YtcgnghkjkdkmmaaGtl
import Derived.Test.YtcgnghkjkdkmmaaGlaw
set_option linter.unusedVariables false
namespace Go.Proofs.Ytcgnghkjkdkmmaa
open Go.RowKit Go.Shelf

theorem putM_twice {p q : Lp} (hk : p.key = q.key) : ∀ M : List Lp, putM (putM M p) q = putM M q
  | [] => by
    have h0 : Op.bytesLess q.key q.key = false := less_lt.2 (lt_irrefl _)
    simp [putM, hk, h0]
  | a :: M => by
    have h0 : Op.bytesLess q.key q.key = false := less_lt.2 (lt_irrefl _)
    cases h1 : Op.bytesLess a.key q.key with
    | true =>
      have e1 : putM (a :: M) p = a :: putM M p := by rw [putM, hk, h1]; simp
      have e2 : putM (a :: M) q = a :: putM M q := by rw [putM, h1]; simp
      have e3 : putM (a :: putM M p) q = a :: putM (putM M p) q := by rw [putM, h1]; simp
      rw [e1, e2, e3, putM_twice hk M]
    | false =>
      cases h2 : a.key == q.key with
      | true =>
        have e1 : putM (a :: M) p = p :: M := by rw [putM, hk, h1, h2]; simp
        have e2 : putM (a :: M) q = q :: M := by rw [putM, h1, h2]; simp
        have e3 : putM (p :: M) q = q :: M := by rw [putM, hk, h0]; simp
        rw [e1, e2, e3]
      | false =>
        have e1 : putM (a :: M) p = p :: a :: M := by rw [putM, hk, h1, h2]; simp
        have e2 : putM (a :: M) q = q :: a :: M := by rw [putM, h1, h2]; simp
        have e3 : putM (p :: a :: M) q = q :: a :: M := by rw [putM, hk, h0]; simp
        rw [e1, e2, e3]

theorem drop_put {p : Lp} {key : List UInt8} (hk : p.key = key) : ∀ M : List Lp, dropM key (putM M p) = dropM key M
  | [] => by simp [putM, dropM, hk]
  | a :: M => by
    have ih := drop_put hk M
    unfold dropM at ih ⊢
    unfold putM
    split
    · simp only [List.filter_cons, ih]
    · split
      · rename_i h2
        have : (a.key == key) = true := by rw [← hk]; exact h2
        simp only [List.filter_cons, hk, beq_self_eq_true, Bool.not_true, Bool.false_eq_true, if_false, this]
      · simp only [List.filter_cons, hk, beq_self_eq_true, Bool.not_true, Bool.false_eq_true, if_false]

theorem drop_lg {A B : List Lp} {key : List UInt8} (h : A.map lg = B.map lg) : (dropM key A).map lg = (dropM key B).map lg := by
  have e : ∀ L : List Lp, (dropM key L).map lg = (L.map lg).filter fun y => !(y.1 == key) := fun L => by
    unfold dropM
    rw [List.filter_map]; rfl
  rw [e, e, h]

theorem put_mem (p : Lp) : ∀ M : List Lp, p ∈ putM M p
  | [] => by simp [putM]
  | a :: M => by
    unfold putM
    split
    · exact List.mem_cons_of_mem _ (put_mem p M)
    · split <;> simp

theorem srt_same {M : List Lp} (h : Srt M) {a b : Lp} (ha : a ∈ M) (hb : b ∈ M) (hk : a.key = b.key) : a = b := by
  induction M with
  | nil => cases ha
  | cons x l ih =>
    have h2 := List.pairwise_cons.1 h
    rcases List.mem_cons.1 ha with e1 | ha2 <;> rcases List.mem_cons.1 hb with e2 | hb2
    · rw [e1, e2]
    · have := h2.1 b hb2
      rw [← e1, hk] at this
      exact (lt_irrefl _ this).elim
    · have := h2.1 a ha2
      rw [← e2, hk] at this
      exact (lt_irrefl _ this).elim
    · exact ih h2.2 ha2 hb2

theorem drop_none {key : List UInt8} (M : List Lp) : ((dropM key M).any fun m => m.key == key) = false := by
  rw [List.any_eq_false]
  intro x hx
  have := (List.mem_filter.1 hx).2
  simpa using this

theorem fill_nil {w w1 W : World} {mb : Nat} {W0 : World} (hM : Mp W0.heap.size w1 mb (.slice none 0 0) []) (hb : Below W0.heap.size w w1) (hW : Below w1.heap.size w1 W) : Fill W0.heap.size w mb 0 none 0 [] (.slice none 0 0) [] W :=
  ⟨hb.trans (hW.mono hM.base_le), hM.old hW, fit_nil, (fun m hm => by simp [mls] at hm), by simp [mls], Prs.nil W, ⟨fun h => (h rfl).elim, fun m hm => by cases hm⟩, by simp [mls]⟩

namespace pagesTwice
set_option maxHeartbeats 16000000 in
set_option maxRecDepth 100000 in
theorem walk0 (x y : Value) (M : List Lp) (p : Lp) (vl : List UInt8) (w : World) (hx : Prs w x M) (hp : RdP w p) (hy : Rd w y vl) :
    Calls Try.prog 8 #[x, pv p, y] w (AnsP w (.bool true)) := by
  obtain ⟨xo, xc, rfl, hmx⟩ := hx.form
  have hyy := hy
  obtain ⟨yo, yc, rfl, -, hm2, -⟩ := hyy
  unfold maxLen at hmx
  have s1 := one_rd hp.1
  have s2 := one_rd hp.2
  have s3 := one_rd hy
  have hbz : Below w.heap.size w (w.alloc (.cells #[.slice p.ka p.key.length p.kc, .slice p.va p.val.length p.vc, .int .i64 p.ver] 31)) := (Below.refl _ _).alloc (Nat.le_refl _) _
  have hxz : (w.alloc (.cells #[.slice p.ka p.key.length p.kc, .slice p.va p.val.length p.vc, .int .i64 p.ver] 31)).heap[w.heap.size]? = some (.cells #[.slice p.ka p.key.length p.kc, .slice p.va p.val.length p.vc, .int .i64 p.ver] 31 (0, 0)) := heap_alloc_new _ _
  have hsz : (w.alloc (.cells #[.slice p.ka p.key.length p.kc, .slice p.va p.val.length p.vc, .int .i64 p.ver] 31)).heap.size = w.heap.size + 1 := by simp
  have HX0 := hid hx
  have HP0 := hid hp
  have HY0 := hid hy
  clear hx hp hy
  unfold pv
  go_enter Try.func8, Try.ntmps8
  go_upto_region 1 with fail
  generalize w.alloc (.cells #[.slice p.ka p.key.length p.kc, .slice p.va p.val.length p.vc, .int .i64 p.ver] 31) = wz at *
  have HX := hid (HX0.out.old hbz)
  have HP := hid (HP0.out.old hbz)
  have HY := hid (HY0.out.old hbz)
  have HBZ := hid hbz
  have HXZ := hid hxz
  have HSZ := hid hsz
  clear hbz hxz hsz
  go_wp2_with (first | (go_at_call 9; refine (new_any wz.heap.size wz (Nat.le_refl _)).mono ?_))
  rintro e w1 ⟨rfl, hM1, hb1⟩
  go_wp2_with (first | (go_at_call 10; refine (awake_any w1).mono ?_))
  rintro e w2 ⟨rfl, hb2⟩
  have HF2 := hid (fill_nil (W0 := wz) hM1 hb1 hb2)
  have HB2 : Hid (Below wz.heap.size wz w2) := HF2.out.below
  have HBW2 : Hid (Below w.heap.size w w2) := HBZ.out.trans (HB2.out.mono (by have := HSZ.out; omega))
  have CA : Hid (∀ W, Below w2.heap.size w2 W → Calls Try.prog 10 #[] W (AnsP w2 (.bool true))) := fun W h => (awake_any W).mono (fun e w' hh => ⟨hh.1, h.trans (hh.2.mono h.size)⟩)
  have CM : Hid (Calls Try.prog 21 #[.agg #[.slice p.ka p.key.length p.kc, .slice p.va p.val.length p.vc, .int .i64 p.ver]] w2 (AnsP w2 (.int .i64 (mayE p)))) := may_any p w2 (HP.out.old HB2.out)
  obtain ⟨p0, p1, p2, -, -, -⟩ := three_cells ((HB2.out.block _ (lt_of_block HXZ.out)).trans HXZ.out)
  clear hM1 hb1 hb2
  by_cases h80 : M.length ≤ 60
  · have e2 : ¬ ((60 : Int) < (M.length : Int)) := by omega
    have e2' : ¬ (60 < M.length) := by omega
    have e2d : decide ((60 : Int) < (M.length : Int)) = false := by simp; omega
    by_cases hmay : mayE p = 0
    · have e3 : (mayE p != 0) = false := by simp [hmay]
      by_cases hvl : vl.length ≤ 1000
      · have e4 : ¬ ((1000 : Int) < (vl.length : Int)) := by omega
        have e4' : ¬ (1000 < vl.length) := by omega
        have e4d : decide ((1000 : Int) < (vl.length : Int)) = false := by simp; omega
        go_wp2_with (first | (go_at_call 21; refine CM.out.mono ?_; rintro e w3 ⟨rfl, hb3⟩))
        have HMAY := hid hmay
        have HVL := hid hvl
        have HF3 : Hid (Fill wz.heap.size wz wz.heap.size 0 none 0 [] (.slice none 0 0) [] w3) := HF2.out.old hb3
        clear hb3 p0 p1 p2 CM e3 e4 e4' e4d hmay hvl e2 e2' e2d s1 s2 s3
        go_loopw [8, 9] (fun a i wr => ∃ (k : Nat) (la : Option Addr) (lc : Nat) (A : List Lp) (v : Value) (G : List Pg), k ≤ M.length ∧ i = .int .i64 k ∧ a = .slice la A.length lc ∧ Hid (Fill wz.heap.size wz wz.heap.size k la lc A v G wr)) (fun _ i _ => M.length - (intOf i).toNat)
        case atStart => exact ⟨0, none, 0, [], _, _, by omega, rfl, rfl, HF3⟩
        case round =>
          obtain ⟨k, la, lc, A, v, G, hk, rfl, rfl, HFI⟩ := hrel
          by_cases hlt : k < M.length
          · have hv := List.getElem?_eq_getElem hlt
            generalize M[k] = m at *
            have hbr := HFI.out.below
            obtain ⟨b, off, rfl, d1, d2, d3⟩ := (HX.out.old hbr).get hv
            have hrm := (HX.out.old hbr).at hv
            have o1 := one_rd hrm.1
            have o2 := one_rd hrm.2
            have HRM := hid hrm
            have HRM0 := hid (HX.out.at hv)
            have HV := hid hv
            clear hv hrm hbr
            by_cases hmay : mayE m = 0
            · have CP : Hid (Calls Try.prog 20 #[.pointer (some ⟨wz.heap.size, 0, none⟩), .agg #[.slice m.ka m.key.length m.kc, .slice m.va m.val.length m.vc, .int .i64 m.ver]] wr (fun e w' => e = .returned (.int .i64 0) ∧ ∃ m' v' G', Alike m' m ∧ Turned wz.heap.size wz.heap.size v G (putM (mls G).flatten m') wr w' v' G')) :=
                put_any wz.heap.size wz.heap.size v G m wr HFI.out.mp HFI.out.fit HRM.out hmay (by have := HFI.out.len; omega)
              go_wp2_with (first | (go_at_call 20; refine CP.out.mono ?_))
              rintro e w3 ⟨rfl, m', v', G', hal, ht⟩
              have HT := hid ht
              have HAL := hid hal
              obtain ⟨hb3, hr3, -⟩ := HFI.out.turned ht
              clear d1 d2 d3 hal ht
              obtain ⟨b2, off2, hbo, d1, d2, d3⟩ := (HX.out.old hb3).get HV.out
              simp only [Option.some.injEq, Addr.mk.injEq, and_true] at hbo
              obtain ⟨rfl, rfl⟩ := hbo
              have CH : Hid (Calls Try.prog 23 #[.slice la A.length lc, .agg #[.slice m.ka m.key.length m.kc, .slice m.va m.val.length m.vc, .int .i64 m.ver]] w3 (MadeP w3 (putM A m))) :=
                hput_any _ A m w3 hr3 (HRM0.out.old hb3) (by have := HFI.out.lenA; omega)
              clear hr3
              go_wp2_with (first | (go_at_call 23; refine CH.out.mono ?_))
              rintro e w4 ⟨x, rfl, hx, hb4⟩
              obtain ⟨xa, xc2, rfl, hfill⟩ := Fill.put rfl HFI.out HRM0.out hmay HAL.out HT.out hx hb4
              have HFL := hid hfill
              clear hx hb4 hfill d1 d2 d3 hb3
              go_wp2_with fail
              go_roundw
              case rel => exact ⟨k + 1, xa, xc2, putM A m, v', G', by omega, by go_num, rfl, HFL⟩
              case measure => simp [intOf]; omega
            · have CP : Hid (Calls Try.prog 20 #[.pointer (some ⟨wz.heap.size, 0, none⟩), .agg #[.slice m.ka m.key.length m.kc, .slice m.va m.val.length m.vc, .int .i64 m.ver]] wr (AnsP wr (.int .i64 (mayE m)))) :=
                put_no (some ⟨wz.heap.size, 0, none⟩) m wr HRM.out (.inr hmay)
              have hme : (mayE m == 0) = false := by simpa using hmay
              go_wp2_with (first | (go_at_call 20; refine CP.out.mono ?_))
              rintro e w3 ⟨rfl, hb3⟩
              have HFL : Hid (Fill wz.heap.size wz wz.heap.size (k + 1) la lc A v G w3) := (HFI.out.old hb3).more (by omega)
              clear d1 d2 d3 hb3
              go_wp2_with fail
              go_roundw
              case rel => exact ⟨k + 1, la, lc, A, v, G, by omega, by go_num, rfl, HFL⟩
              case measure => simp [intOf]; omega
          · obtain rfl : k = M.length := by omega
            have hfl0 := HFI.out.len
            have hqmay : mayE ⟨p.ka, p.kc, yo, yc, p.key, vl, p.ver⟩ = 0 := by
              have h1 := HMAY.out
              have h2 := HVL.out
              unfold mayE at h1 ⊢
              split at h1
              · cases h1
              · split at h1
                · cases h1
                · rename_i h3 h4
                  rw [if_neg h3, if_neg (by show ¬ 1000 < vl.length; omega)]
            have hb4 : Below wr.heap.size wr (wr.alloc (.cells #[.slice p.ka p.key.length p.kc, .slice yo vl.length yc, .int .i64 p.ver] 31)) := (Below.refl _ _).alloc (Nat.le_refl _) _
            have hq4 : (wr.alloc (.cells #[.slice p.ka p.key.length p.kc, .slice yo vl.length yc, .int .i64 p.ver] 31)).heap[wr.heap.size]? = some (.cells #[.slice p.ka p.key.length p.kc, .slice yo vl.length yc, .int .i64 p.ver] 31 (0, 0)) := heap_alloc_new _ _
            have hpx := fun (W : World) (h : Below wz.heap.size wz W) => three_cells ((h.block _ (lt_of_block HXZ.out)).trans HXZ.out)
            have HPX := hid hpx
            obtain ⟨p0, p1, p2, -, -, -⟩ := hpx wr HFI.out.below
            have o5 := one_rd HY.out
            have o6 := one_rd HP.out.1
            have o7 := one_rd HP.out.2
            clear hpx
            go_upto_region 11 with fail
            generalize wr.alloc (.cells #[.slice p.ka p.key.length p.kc, .slice yo vl.length yc, .int .i64 p.ver] 31) = w4 at *
            have HF4 : Hid (Fill wz.heap.size wz wz.heap.size M.length la lc A v G w4) := HFI.out.old hb4
            have HQ4 := hid hq4
            have HQM := hid hqmay
            have HFL0 := hid hfl0
            clear p0 p1 p2 hb4 hq4 hqmay
            obtain ⟨p0, p1, p2, -, -, -⟩ := HPX.out w4 HF4.out.below
            have CP1 : Hid (Calls Try.prog 20 #[.pointer (some ⟨wz.heap.size, 0, none⟩), .agg #[.slice p.ka p.key.length p.kc, .slice p.va p.val.length p.vc, .int .i64 p.ver]] w4 (fun e w' => e = .returned (.int .i64 0) ∧ ∃ m' v' G', Alike m' p ∧ Turned wz.heap.size wz.heap.size v G (putM (mls G).flatten m') w4 w' v' G')) :=
              put_any wz.heap.size wz.heap.size v G p w4 HF4.out.mp HF4.out.fit (HP.out.old HF4.out.below) HMAY.out (by omega)
            go_wp2_with (first | (go_at_call 20; refine CP1.out.mono ?_))
            rintro e w5 ⟨rfl, pp, v1, G1, hal1, ht1⟩
            obtain ⟨hbw5, hr5, ho5⟩ := HF4.out.turned ht1
            have hq5 := (ht1.keep.block _ (lt_of_block HQ4.out) (fun hx => by have := HFI.out.mp.mx_lt _ hx; omega)).trans HQ4.out
            have HT1 := hid ht1
            have HAL1 := hid hal1
            have HBW5 := hid hbw5
            have HR5 := hid hr5
            have HO5 := hid ho5
            have HQ5 := hid hq5
            have hl1 : (mls G1).flatten.length ≤ 61 := by rw [ht1.flat]; have := len_putM pp (mls G).flatten; omega
            clear p0 p1 p2 hal1 ht1 hbw5 hr5 ho5
            obtain ⟨q0, q1, q2, -, -, -⟩ := three_cells hq5
            clear hq5
            have CP2 : Hid (Calls Try.prog 20 #[.pointer (some ⟨wz.heap.size, 0, none⟩), .agg #[.slice p.ka p.key.length p.kc, .slice yo vl.length yc, .int .i64 p.ver]] w5 (fun e w' => e = .returned (.int .i64 0) ∧ ∃ m' v' G', Alike m' ⟨p.ka, p.kc, yo, yc, p.key, vl, p.ver⟩ ∧ Turned wz.heap.size wz.heap.size v1 G1 (putM (mls G1).flatten m') w5 w' v' G')) :=
              put_any wz.heap.size wz.heap.size v1 G1 ⟨p.ka, p.kc, yo, yc, p.key, vl, p.ver⟩ w5 HT1.out.mp HT1.out.fit ⟨HP.out.1.old HBW5.out, HY.out.old HBW5.out⟩ HQM.out (by omega)
            go_wp2_with (first | (go_at_call 20; refine CP2.out.mono ?_))
            rintro e w6 ⟨rfl, qq, v2, G2, hal2, ht2⟩
            have hli6 := ht2.list HR5.out HO5.out
            have hbw6 : Below wz.heap.size wz w6 := HBW5.out.trans (ht2.keep.below HT1.out.mp.base_le HT1.out.mp.mx_lo)
            have hq6 := (ht2.keep.block _ (lt_of_block HQ5.out) (fun hx => by
              rcases hx with e9 | e9
              · have h1 := HFI.out.mp.mx_lt wz.heap.size (.inl rfl)
                omega
              · rcases HT1.out.vnew _ e9 with e8 | e8
                · have := HFI.out.mp.mx_lt _ (.inr e8); omega
                · have := lt_of_block HQ4.out; omega)).trans HQ5.out
            have hflat2 : (mls G2).flatten = putM (putM (mls G).flatten pp) qq := by rw [ht2.flat, HT1.out.flat]
            have hl2 : (mls G2).flatten.length ≤ 62 := by rw [ht2.flat]; have := len_putM qq (mls G1).flatten; omega
            have hqk : qq.key = p.key := hal2.1
            have hmay2 : ∀ m ∈ (mls G2).flatten, mayE m = 0 := fun m hm => by
              rw [hflat2] at hm
              rcases mem_putM hm with rfl | hm
              · rw [mayE_alike hal2]; exact HQM.out
              · rcases mem_putM hm with rfl | hm
                · rw [mayE_alike HAL1.out]; exact HMAY.out
                · exact HFI.out.may m hm
            have hg2 : G2.length ≤ 10000 := by
              have h1 := len_flat (mls G2) (fun g hg => (ht2.fit.ok g hg).1)
              rw [mls_len] at h1
              omega
            have HNQ : Hid (¬ MX wz.heap.size v2 wr.heap.size) := fun hx => by
              rcases hx with e9 | e9
              · have h1 := HFI.out.mp.mx_lt wz.heap.size (.inl rfl)
                omega
              · rcases ht2.vnew _ e9 with e9 | e9
                · rcases HT1.out.vnew _ e9 with e8 | e8
                  · have := HFI.out.mp.mx_lt _ (.inr e8); omega
                  · have := lt_of_block HQ4.out; omega
                · have := lt_of_block HQ5.out; omega
            have HT2 := hid ht2
            have HAL2 := hid hal2
            have HLI6 := hid hli6
            have HBW6 := hid hbw6
            have HQ6 := hid hq6
            have HFLAT2 := hid hflat2
            have HQK := hid hqk
            have HMAY2 := hid hmay2
            clear q0 q1 q2 hal2 ht2 hli6 hbw6 hq6 hflat2 hqk hmay2
            obtain ⟨p0, p1, p2, -, -, -⟩ := HPX.out w6 HBW6.out
            have CG : Hid (Calls Try.prog 24 #[.pointer (some ⟨wz.heap.size, 0, none⟩), .slice p.ka p.key.length p.kc] w6 (GetA G2 p.key w6)) :=
              get_any _ _ G2 p.key w6 (MapR.of HT2.out.mp) HT2.out.fit (HP.out.1.old HBW6.out) (fun g hg m hm => may_bytes (HMAY2.out m (List.mem_flatten.2 ⟨g.M, mls_mem hg, hm⟩)))
            go_wp2_with (first | (go_at_call 24; refine CG.out.mono ?_))
            rintro e w7 (⟨m, m', hm, hmk, hal, hmi, rfl, hb7⟩ | ⟨hno, -, -⟩)
            · have hmq : m = qq := srt_same HT2.out.fit.srt hm (by rw [HFLAT2.out]; exact put_mem _ _) (by rw [hmk, HQK.out])
              have hsame : sameP m' ⟨p.ka, p.kc, yo, yc, p.key, vl, p.ver⟩ = true := lg_same (by rw [alike_lg hal, hmq, alike_lg HAL2.out])
              have o8 := one_rd hmi.rd.1
              have o9 := one_rd hmi.rd.2
              have hb8 : Below w6.heap.size w6 (w7.alloc (.cells #[.slice m'.ka m'.key.length m'.kc, .slice m'.va m'.val.length m'.vc, .int .i64 m'.ver] 31)) := hb7.alloc hb7.size _
              have hx8 : (w7.alloc (.cells #[.slice m'.ka m'.key.length m'.kc, .slice m'.va m'.val.length m'.vc, .int .i64 m'.ver] 31)).heap[w7.heap.size]? = some (.cells #[.slice m'.ka m'.key.length m'.kc, .slice m'.va m'.val.length m'.vc, .int .i64 m'.ver] 31 (0, 0)) := heap_alloc_new _ _
              have HS67 : Hid (w6.heap.size ≤ w7.heap.size) := hb7.size
              have hm8 : RdP (w7.alloc (.cells #[.slice m'.ka m'.key.length m'.kc, .slice m'.va m'.val.length m'.vc, .int .i64 m'.ver] 31)) m' := hmi.rd.old ((Below.refl _ _).alloc (Nat.le_refl _) _)
              clear hal hmi hb7 hm hmk hmq p0 p1 p2
              unfold pv
              go_upto_region 14 with fail
              generalize w7.alloc (.cells #[.slice m'.ka m'.key.length m'.kc, .slice m'.va m'.val.length m'.vc, .int .i64 m'.ver] 31) = w8 at *
              have HB8 := hid hb8
              have HX8 := hid hx8
              have HM8 := hid hm8
              clear hb8 hx8 hm8
              have HBWz8 : Hid (Below wz.heap.size wz w8) := HBW6.out.trans (HB8.out.mono HBW6.out.size)
              have HM2 : Hid (Mp wz.heap.size w8 wz.heap.size v2 G2) := HT2.out.mp.old HB8.out
              have HLI8 : Hid (RdG w8 ⟨la, lc, A⟩) := HLI6.out.1.old HB8.out
              have HLO8 : Hid (OffG (MX wz.heap.size v2) ⟨la, lc, A⟩) := HLI6.out.2
              have hqx := fun (W : World) (h : Below w8.heap.size w8 W) => three_cells ((h.block _ (Nat.lt_of_lt_of_le (lt_of_block HQ6.out) HB8.out.size)).trans ((HB8.out.block _ (lt_of_block HQ6.out)).trans HQ6.out))
              have HQX := hid hqx
              obtain ⟨x0, x1, x2, -, -, -⟩ := three_cells HX8.out
              obtain ⟨q0, q1, q2, -, -, -⟩ := hqx w8 (Below.refl _ _)
              obtain ⟨p0, p1, p2, -, -, -⟩ := HPX.out w8 HBWz8.out
              have CPR : Hid (∀ W, Below w8.heap.size w8 W → Calls Try.prog 17 #[.agg #[.slice m'.ka m'.key.length m'.kc, .slice m'.va m'.val.length m'.vc, .int .i64 m'.ver], .agg #[.slice p.ka p.key.length p.kc, .slice yo vl.length yc, .int .i64 p.ver]] W (AnsP W (.bool true))) := fun W h => by
                rw [← hsame]
                exact pair_any m' ⟨p.ka, p.kc, yo, yc, p.key, vl, p.ver⟩ W (HM8.out.old h) ⟨HP.out.1.old (HBWz8.out.trans (h.mono HBWz8.out.size)), HY.out.old (HBWz8.out.trans (h.mono HBWz8.out.size))⟩
              have hcount : total G2 = (putM A ⟨p.ka, p.kc, yo, yc, p.key, vl, p.ver⟩).length := by
                have h1 : (putM A ⟨p.ka, p.kc, yo, yc, p.key, vl, p.ver⟩).map lg = (putM (mls G).flatten qq).map lg := putM_lg (alike_lg HAL2.out).symm HFI.out.same
                have h2 := congrArg List.length h1
                simp only [List.length_map] at h2
                rw [h2]
                unfold total
                rw [HFLAT2.out, putM_twice (show pp.key = qq.key by rw [HAL1.out.1, HQK.out])]
              have CL : Hid (∀ W, Below w8.heap.size w8 W → Calls Try.prog 28 #[.pointer (some ⟨wz.heap.size, 0, none⟩)] W (fun e w' => e = .returned (.int .i64 ((putM A ⟨p.ka, p.kc, yo, yc, p.key, vl, p.ver⟩).length : Int)) ∧ w' = W)) := fun W h => by
                rw [← hcount]
                exact len_any _ G2 W (MapR.of (HM2.out.old h)) (by unfold total; omega) (by omega)
              have CH : Hid (∀ W, Below w8.heap.size w8 W → Calls Try.prog 23 #[.slice la A.length lc, .agg #[.slice p.ka p.key.length p.kc, .slice yo vl.length yc, .int .i64 p.ver]] W (MadeP W (putM A ⟨p.ka, p.kc, yo, yc, p.key, vl, p.ver⟩))) := fun W h =>
                hput_any _ A ⟨p.ka, p.kc, yo, yc, p.key, vl, p.ver⟩ W (HLI8.out.old h) ⟨HP.out.1.old (HBWz8.out.trans (h.mono HBWz8.out.size)), HY.out.old (HBWz8.out.trans (h.mono HBWz8.out.size))⟩ (by have := HFI.out.lenA; omega)
              have hany : ((mls G2).flatten.any fun m => m.key == p.key) = true := by
                rw [List.any_eq_true]
                exact ⟨qq, by rw [HFLAT2.out]; exact put_mem _ _, by simp [HQK.out]⟩
              have CD1 : Hid (∀ W, Below w8.heap.size w8 W → Calls Try.prog 12 #[.pointer (some ⟨wz.heap.size, 0, none⟩), .slice p.ka p.key.length p.kc] W (fun e w' => e = .returned (.bool true) ∧ ∃ v' G', Turned wz.heap.size wz.heap.size v2 G2 (dropM p.key (mls G2).flatten) W w' v' G')) := fun W h =>
                (drop_any wz.heap.size wz.heap.size v2 _ _ G2 p.key W (.inr ⟨rfl, HM2.out.old h⟩) HT2.out.fit (HP.out.1.old (HBWz8.out.trans (h.mono HBWz8.out.size)))).mono (by
                  rintro e w' ⟨b, hb, rfl, -, h1⟩
                  rw [hany] at hb
                  subst hb
                  exact ⟨rfl, h1 rfl⟩)
              have CD2 : Hid (∀ W v3 G3 W0, Turned wz.heap.size wz.heap.size v2 G2 (dropM p.key (mls G2).flatten) W0 W v3 G3 → Below wz.heap.size wz W → Calls Try.prog 12 #[.pointer (some ⟨wz.heap.size, 0, none⟩), .slice p.ka p.key.length p.kc] W (fun e w' => e = .returned (.bool false) ∧ Below W.heap.size W w')) := fun W v3 G3 W0 h3 hb =>
                (drop_any wz.heap.size wz.heap.size v3 _ _ G3 p.key W (.inr ⟨rfl, h3.mp⟩) h3.fit (HP.out.1.old hb)).mono (by
                  rintro e w' ⟨b, hb, rfl, h1, -⟩
                  rw [h3.flat, drop_none] at hb
                  subst hb
                  exact ⟨rfl, h1 rfl⟩)
              obtain ⟨Fx, hFx⟩ : ∃ Fx : World → Prop, Fx = fun W => W.heap[w7.heap.size]? = w8.heap[w7.heap.size]? ∧ W.heap[wr.heap.size]? = w8.heap[wr.heap.size]? ∧ W.heap[w.heap.size]? = w8.heap[w.heap.size]? := ⟨_, rfl⟩
              have hlx : w7.heap.size < w8.heap.size := lt_of_block HX8.out
              have hlq : wr.heap.size < w8.heap.size := Nat.lt_of_lt_of_le (lt_of_block HQ6.out) HB8.out.size
              have hlp : w.heap.size < w8.heap.size := Nat.lt_of_lt_of_le (lt_of_block HXZ.out) HBWz8.out.size
              have HFB : Hid (∀ W, Below w8.heap.size w8 W → Fx W) := fun W h => by subst hFx; exact ⟨h.block _ hlx, h.block _ hlq, h.block _ hlp⟩
              have HFT : Hid (∀ W W', Fx W → Below w8.heap.size w8 W → Keep (MX wz.heap.size v2) W W' → Fx W') := fun W W' h hb hk => by
                subst hFx
                have hmx := HT2.out.mp.mx_lt
                have hs7 : w6.heap.size ≤ w7.heap.size := HS67.out
                have hq9 : ¬ MX wz.heap.size v2 wr.heap.size := HNQ.out
                have hsz := HSZ.out
                refine ⟨(hk.block _ (Nat.lt_of_lt_of_le hlx hb.size) (fun hx => by have := hmx _ hx; omega)).trans h.1, (hk.block _ (Nat.lt_of_lt_of_le hlq hb.size) hq9).trans h.2.1, (hk.block _ (Nat.lt_of_lt_of_le hlp hb.size) (fun hx => by have := HT2.out.mp.mx_lo _ hx; omega)).trans h.2.2⟩
              have HFD : Hid (∀ W W', Fx W → Below W.heap.size W W' → Below w8.heap.size W W → W.heap.size ≥ w8.heap.size → Fx W') := fun W W' h hb _ hs => by
                subst hFx
                exact ⟨(hb.block _ (by omega)).trans h.1, (hb.block _ (by omega)).trans h.2.1, (hb.block _ (by omega)).trans h.2.2⟩
              have HS : Hid (∀ W, Fx W → (Hid (Fx W) ∧ W.cell? ⟨w7.heap.size, 0, none⟩ = some (.slice m'.ka m'.key.length m'.kc) ∧ W.cell? ⟨w7.heap.size, 1, none⟩ = some (.slice m'.va m'.val.length m'.vc) ∧ W.cell? ⟨w7.heap.size, 2, none⟩ = some (.int .i64 m'.ver) ∧
                  W.cell? ⟨wr.heap.size, 0, none⟩ = some (.slice p.ka p.key.length p.kc) ∧ W.cell? ⟨wr.heap.size, 1, none⟩ = some (.slice yo vl.length yc) ∧ W.cell? ⟨wr.heap.size, 2, none⟩ = some (.int .i64 p.ver) ∧ W.cell? ⟨w.heap.size, 0, none⟩ = some (.slice p.ka p.key.length p.kc))) := fun W h => by
                have h0 := h
                subst hFx
                obtain ⟨a1, a2, a3, -⟩ := three_cells (h.1.trans HX8.out)
                obtain ⟨b1, b2, b3, -⟩ := three_cells (h.2.1.trans ((HB8.out.block _ (lt_of_block HQ6.out)).trans HQ6.out))
                obtain ⟨c1, -, -, -⟩ := HPX.out w8 HBWz8.out
                exact ⟨h0, a1, a2, a3, b1, b2, b3, (World.cell?_of_block (w := w8) h.2.2).trans c1⟩
              have HD0 : Hid (Below w8.heap.size w8 w8.drew) := (Below.refl _ _).drew
              have hf8 : Fx w8 := HFB.out _ (Below.refl _ _)
              clear hqx hsame hcount hany hFx x0 x1 x2 q0 q1 q2 p0 p1 p2 hlx hlq hlp
              obtain ⟨-, x0, x1, x2, q0, q1, q2, p0⟩ := HS.out w8 hf8
              have HF8 := hid hf8
              clear hf8
              go_region_held3 (fun W => Hid (Fx W) ∧ W.cell? ⟨w7.heap.size, 0, none⟩ = some (.slice m'.ka m'.key.length m'.kc) ∧ W.cell? ⟨w7.heap.size, 1, none⟩ = some (.slice m'.va m'.val.length m'.vc) ∧ W.cell? ⟨w7.heap.size, 2, none⟩ = some (.int .i64 m'.ver) ∧
                  W.cell? ⟨wr.heap.size, 0, none⟩ = some (.slice p.ka p.key.length p.kc) ∧ W.cell? ⟨wr.heap.size, 1, none⟩ = some (.slice yo vl.length yc) ∧ W.cell? ⟨wr.heap.size, 2, none⟩ = some (.int .i64 p.ver) ∧ W.cell? ⟨w.heap.size, 0, none⟩ = some (.slice p.ka p.key.length p.kc))
                (first | (go_split_ands; first | exact HS.out _ (Hid.out FXE) | exact HS.out _ (Hid.out FXD) | exact HS.out _ (Hid.out FXH) | exact HS.out _ (Hid.out FXP) | exact HS.out _ (HFB.out _ HD0.out)) | go_keep)
                (first
                  | (go_at_call 17; go_split_ands; refine (CPR.out _ HD0.out).mono ?_; rintro e wP ⟨rfl, hbP⟩; have HBP : Hid (Below w8.heap.size w8 wP) := HD0.out.trans (hbP.mono HD0.out.size); have FXP : Hid (Fx wP) := HFB.out _ HBP.out; clear hbP)
                  | (go_at_call 28; go_split_ands; refine (CL.out _ HBP.out).mono ?_; rintro e wL ⟨rfl, hwL⟩; subst hwL)
                  | (go_at_call 23; go_split_ands; refine (CH.out _ HBP.out).mono ?_; rintro e wH ⟨xx, rfl, hxx, hbH⟩; obtain ⟨xxo, xxc, rfl⟩ := own_lenG hxx; have HBH : Hid (Below w8.heap.size w8 wH) := HBP.out.trans (hbH.mono HBP.out.size); have FXH : Hid (Fx wH) := HFB.out _ HBH.out; clear hxx hbH)
                  | (go_at_call 12; go_split_ands; refine (CD2.out _ _ _ _ HT3.out HBD.out).mono ?_; rintro e wE ⟨rfl, hE⟩; have FXE : Hid (Fx wE) := HFD.out _ _ FXD.out hE (Below.refl _ _) (Nat.le_trans HBH.out.size HT3.out.keep.size); have HBE := hid hE; clear hE)
                  | (go_at_call 12; go_split_ands; refine (CD1.out _ HBH.out).mono ?_; rintro e wD ⟨rfl, v3, G3, ht3⟩; have HT3 := hid ht3; have FXD : Hid (Fx wD) := HFT.out _ _ FXH.out HBH.out ht3.keep; have HBD : Hid (Below wz.heap.size wz wD) := (HBWz8.out.trans (HBH.out.mono HBWz8.out.size)).trans (ht3.keep.below (HM2.out.old HBH.out).base_le (HM2.out.old HBH.out).mx_lo); clear ht3))
              rename_i hHeld
              obtain ⟨-, -, -, -, -, -, -, pk⟩ := hHeld
              have HBwD : Hid (Below wz.heap.size wz wE) := HBD.out.trans (HBE.out.mono HBD.out.size)
              have HME : Hid (Mp wz.heap.size wE wz.heap.size v3 G3) := HT3.out.mp.old HBE.out
              have hliE : RdG wE ⟨la, lc, A⟩ := ((HT3.out.list (HLI8.out.old HBH.out) HLO8.out).1).old HBE.out
              have hfl3 : (mls G3).flatten = dropM p.key (mls G).flatten := by
                rw [HT3.out.flat, HFLAT2.out, drop_put HQK.out, drop_put HAL1.out.1]
              have CC : Hid (Calls Try.prog 13 #[.slice la A.length lc, .slice p.ka p.key.length p.kc] wE (MadeP wE (dropM p.key A))) :=
                cut_any _ _ A p.key wE hliE (HP.out.1.old HBwD.out) (by have := HFI.out.lenA; omega)
              have HFL3 := hid hfl3
              have HLIE := hid hliE
              clear x0 x1 x2 q0 q1 q2 p0 hfl3 hliE
              go_wp2_with (first | (go_at_call 13; refine CC.out.mono ?_))
              rintro e wF ⟨xx2, rfl, hxx2, hbF⟩
              obtain ⟨cxo, cxc, rfl⟩ := own_lenG hxx2
              have hpc : Prs wF (.slice cxo (dropM p.key A).length cxc) (dropM p.key A) := Prs.own hxx2 (fun m hm => (HLIE.out.2 m (List.mem_filter.1 hm).1).old hbF)
              have hl3 : (mls G3).flatten.length ≤ 60 := by
                rw [HFL3.out]
                have h1 := List.length_filter_le (fun m : Lp => !(m.key == p.key)) (mls G).flatten
                unfold dropM
                have := HFL0.out
                omega
              have hg3 : G3.length ≤ 10000 := by
                have h1 := len_flat (mls G3) (fun g hg => (HT3.out.fit.ok g hg).1)
                rw [mls_len] at h1
                omega
              have CTL : Hid (Calls Try.prog 25 #[.pointer (some ⟨wz.heap.size, 0, none⟩), .slice cxo (dropM p.key A).length cxc, .agg #[.slice none 0 0, .slice none 0 0]] wF (AnsP wF (.bool true))) :=
                told_any _ _ _ _ G3 (dropM p.key A) [] [] wF (MapR.of (HME.out.old hbF)) HT3.out.fit hpc (by rw [HFL3.out]; exact drop_lg HFI.out.same) (Rd.nil _) (Rd.nil _) hg3 (fun m hm => by rw [HFL3.out] at hm; exact may_bytes (HFI.out.may m (List.mem_filter.1 hm).1))
              have HBF := hid hbF
              clear hxx2 hpc hbF
              go_wp2_with (first | (go_at_call 25; refine CTL.out.mono ?_))
              rintro e wG ⟨rfl, hbG⟩
              have HBG := hid hbG
              clear hbG
              go_wp2_with fail
              go_ret
              have hz : Below wz.heap.size wz wG := HBwD.out.trans ((HBF.out.trans (HBG.out.mono HBF.out.size)).mono HBwD.out.size)
              exact ⟨rfl, HBZ.out.trans (hz.mono HBZ.out.size)⟩
            · exact (hno qq (by rw [HFLAT2.out]; exact put_mem _ _) HQK.out).elim
      · have e4 : (1000 : Int) < (vl.length : Int) := by omega
        have e4' : 1000 < vl.length := by omega
        go_wp2_with (first
          | (go_at_call 21; refine CM.out.mono ?_; rintro e w3 ⟨rfl, hb3⟩)
          | (go_at_call 10; refine (CA.out _ hb3).mono ?_; rintro e w4 ⟨rfl, hb4⟩))
        go_ret
        exact ⟨rfl, HBW2.out.trans (hb4.mono HBW2.out.size)⟩
    · have e3 : (mayE p != 0) = true := by simpa using hmay
      go_wp2_with (first
        | (go_at_call 21; refine CM.out.mono ?_; rintro e w3 ⟨rfl, hb3⟩)
        | (go_at_call 10; refine (CA.out _ hb3).mono ?_; rintro e w4 ⟨rfl, hb4⟩))
      go_ret
      exact ⟨rfl, HBW2.out.trans (hb4.mono HBW2.out.size)⟩
  · have e2 : (60 : Int) < (M.length : Int) := by omega
    have e2' : 60 < M.length := by omega
    go_wp2_with (first | (go_at_call 10; refine (CA.out _ (Below.refl _ _)).mono ?_; rintro e w4 ⟨rfl, hb4⟩))
    go_ret
    exact ⟨rfl, HBW2.out.trans (hb4.mono HBW2.out.size)⟩

set_option maxRecDepth 100000 in
theorem walk {H : Type} {enc : TypeId × Value → H} {base : Nat} {d0 d1 : DataW H} {p0 p1 : List MemPlace} (v0 v1 : Value) (a2 : Option Addr) (len2 cap2 : Nat) (z2 : List Int) (w : World)
    (k0 : Value.okWide Try.prog w .any base 29 v0) (t0 : DataW.Trod enc Try.prog w 0 (fun _ => true) true 29 v0 d0 p0)
    (k1 : Value.okWide Try.prog w .any base 31 v1) (t1 : DataW.Trod enc Try.prog w 0 (fun _ => true) true 31 v1 d1 p1) (w2 : IsRow .u8 w a2 len2 cap2 z2) (b2 : cap2 * 1 ≤ 140737488351232) :
    Calls Try.prog 8 #[v0, v1, .slice a2 len2 cap2] w fun e w' => e = .returned (.bool true) ∧ Below w.heap.size w w' := by
  obtain ⟨a, len, cap, rfl⟩ := WideShapes.okWide_slice Try.underlying29 k0
  obtain ⟨M, rfl, hM⟩ := pairs_open t0
  obtain ⟨p, rfl, hp⟩ := pair_open k1 t1
  obtain ⟨l, rfl, hr1⟩ := rd_of_row w2
  exact walk0 _ _ M p l w hM hp hr1
end pagesTwice
end Go.Proofs.Ytcgnghkjkdkmmaa
