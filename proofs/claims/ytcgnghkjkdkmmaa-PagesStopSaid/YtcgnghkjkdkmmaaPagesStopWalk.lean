/-
  THE LAW PagesStop: its walk.
-/
import Derived.LoopN
import Derived.Sort.CutIn
import Derived.Deep.CutBlock
import Derived.Test.YtcgnghkjkdkmmaaGor
import Derived.Test.YtcgnghkjkdkmmaaGtl
import Derived.Test.YtcgnghkjkdkmmaaGlaw
set_option linter.unusedVariables false
namespace Go.Proofs.Ytcgnghkjkdkmmaa
open Go.RowKit Go.Shelf
attribute [local go_sem] Oper.semAt_some

/-- A range over a function, in a statement that it leaves by its end or by a break: what is behind it is walked once. -/
theorem wp_range_cut {P : Program} {c : Code} {Q : Exit → Act → World → Prop} {a : Act} {w : World} (R : Nat → World → Prop)
    (h : c.wp P (fun e a' w' => e = .normal ∧ ∃ D, a' = { a with defers := { target := .collected D, args := #[] } :: a.defers } ∧ R D w') a w)
    (k : ∀ D w', R D w' → Q .normal { a with defers := { target := .collected D, args := #[] } :: a.defers } w') : c.wp P Q a w :=
  wp_mono h (by rintro e a' w' ⟨rfl, D, rfl, hr⟩; exact k D w' hr)

theorem fill_nil {w w1 W : World} {mb : Nat} {W0 : World} (hM : Mp W0.heap.size w1 mb (.slice none 0 0) []) (hb : Below W0.heap.size w w1) (hW : Below w1.heap.size w1 W) : Fill W0.heap.size w mb 0 none 0 [] (.slice none 0 0) [] W :=
  ⟨hb.trans (hW.mono hM.base_le), hM.old hW, fit_nil, (fun m hm => by simp [mls] at hm), by simp [mls], Prs.nil W, ⟨fun h => (h rfl).elim, fun m hm => by cases hm⟩, by simp [mls]⟩

theorem fromG_offX {G : List Pg} {h : Pg} {X : Nat → Prop} (hF : Fit G) (hG : Off X G) (hh : FromG G h) : OffG X h := by
  refine ⟨fun _ a ha hX => ?_, fun m hm => ?_⟩
  · obtain ⟨g, hg, b, hb, e⟩ := hh.1 a ha
    have hne : g.M ≠ [] := fun e => by have := (hF.ok _ (mls_mem hg)).1; rw [e] at this; simp at this
    have := (hG g hg).1 hne b hb
    rw [e] at this
    exact this hX
  · obtain ⟨l, hl, hm2⟩ := List.mem_flatten.1 (hh.2 m hm)
    obtain ⟨g, hg, rfl⟩ := List.mem_map.1 hl
    exact (hG g hg).2 m hm2

theorem stop_number (z : Int) : ∃ n : Nat, n < 9 ∧ wrap64 ((IntKind.u64.wrap z).tmod 9) = (n : Int) := by
  have e : IntKind.u64.wrap z = (((z % 18446744073709551616).toNat : Nat) : Int) := by rw [IntKind.wrap_u64]; omega
  generalize (z % 18446744073709551616).toNat = u at e
  have h1 : (u : Int).tmod 9 = ((u % 9 : Nat) : Int) := rfl
  refine ⟨u % 9, Nat.mod_lt _ (by omega), ?_⟩
  rw [e, h1]
  simp only [wrap64]
  omega

theorem cell_int {W : World} {a : Addr} {v : Value} {D : Nat} {z : Int} {t : TypeId} (hD : W.heap[D]? = some (.cells #[.int .i64 z] t (0, 0))) (h : W.cell? a = some v) (e : a.block = D) : v = .int .i64 z := by
  subst e
  unfold World.cell? at h
  rw [hD] at h
  obtain ⟨bl, off, sp⟩ := a
  cases sp with
  | none =>
    cases off with
    | zero => simp at h; exact h.symm
    | succ n => simp at h
  | some _ => simp at h

theorem RdP.offInt {W : World} {m : Lp} {D : Nat} {z : Int} {t : TypeId} (h : RdP W m) (hD : W.heap[D]? = some (.cells #[.int .i64 z] t (0, 0))) : OffP (fun k => k = D) m := by
  have key : ∀ {ao : Option Addr} {n c : Nat} {l : List UInt8}, Rd W (.slice ao n c) l → l ≠ [] → ∀ a, ao = some a → a.block ≠ D := fun {ao n c l} hr hn a ha e => by
    subst ha
    obtain ⟨ao', c', he, h1, h2, h3, h4⟩ := hr
    simp only [Value.slice.injEq] at he
    obtain ⟨rfl, rfl, rfl⟩ := he
    cases l with
    | nil => exact hn rfl
    | cons x l =>
      have := cell_int hD (h4 a rfl 0 _ rfl) (by rw [add_block]; exact e)
      cases this
  exact ⟨fun hn a ha => key h.1 hn a ha, fun hn a ha => key h.2 hn a ha⟩
theorem RdG.offInt {W : World} {g : Pg} {D : Nat} {z : Int} {t : TypeId} (h : RdG W g) (hD : W.heap[D]? = some (.cells #[.int .i64 z] t (0, 0))) : OffG (fun k => k = D) g := by
  refine ⟨fun hn a ha e => ?_, fun m hm => (h.2 m hm).offInt hD⟩
  obtain ⟨m, hm⟩ := List.exists_mem_of_ne_nil g.M hn
  obtain ⟨i0, hi0⟩ := List.mem_iff_getElem?.1 hm
  obtain ⟨bb, off, e2, h9, -, -⟩ := Prs.get (show Prs W (.slice g.a g.M.length g.c) g.M from h) hi0
  rw [ha] at e2
  cases e2
  have := cell_int hD h9 e
  cases this

namespace pagesStop
set_option maxHeartbeats 32000000 in
set_option maxRecDepth 100000 in
theorem walk0 (x fv tv : Value) (M : List Lp) (f t : List UInt8) (z : Int) (p : Lp) (w : World) (hx : Prs w x M) (hf : Rd w fv f) (ht : Rd w tv t) (hz : (Lit.int .i64 z).wf = true) (hp : RdP w p) :
    Calls Try.prog 5 #[x, .agg #[fv, tv], .int .i64 z, pv p] w (AnsP w (.bool true)) := by
  obtain ⟨xo, xc, rfl, hmx⟩ := hx.form
  have hff := hf
  have htt := ht
  obtain ⟨fa, fc, rfl, -⟩ := hff
  obtain ⟨ta, tc, rfl, -⟩ := htt
  unfold maxLen at hmx
  have s1 := one_rd hp.1
  have s2 := one_rd hp.2
  have hbz : Below w.heap.size w ((((w.alloc (.cells #[.slice fa f.length fc, .slice ta t.length tc] 25)).alloc (.cells #[.int .i64 z] 3)).alloc (.cells #[.slice p.ka p.key.length p.kc, .slice p.va p.val.length p.vc, .int .i64 p.ver] 31)).alloc (.cells #[.bool false] 4)) := ((((Below.refl _ _).alloc (Nat.le_refl _) _).alloc (by simp) _).alloc (by first | (simp; done) | (simp; omega)) _).alloc (by first | (simp; done) | (simp; omega)) _
  have hxs : ((((w.alloc (.cells #[.slice fa f.length fc, .slice ta t.length tc] 25)).alloc (.cells #[.int .i64 z] 3)).alloc (.cells #[.slice p.ka p.key.length p.kc, .slice p.va p.val.length p.vc, .int .i64 p.ver] 31)).alloc (.cells #[.bool false] 4)).heap[w.heap.size]? = some (.cells #[.slice fa f.length fc, .slice ta t.length tc] 25 (0, 0)) := (Below.heap_alloc _ _ _ (by first | (simp; done) | (simp; omega))).trans ((Below.heap_alloc _ _ _ (by first | (simp; done) | (simp; omega))).trans ((Below.heap_alloc _ _ _ (by simp)).trans (heap_alloc_new _ _)))
  have hxt : ((((w.alloc (.cells #[.slice fa f.length fc, .slice ta t.length tc] 25)).alloc (.cells #[.int .i64 z] 3)).alloc (.cells #[.slice p.ka p.key.length p.kc, .slice p.va p.val.length p.vc, .int .i64 p.ver] 31)).alloc (.cells #[.bool false] 4)).heap[w.heap.size + 1]? = some (.cells #[.int .i64 z] 3 (0, 0)) := (Below.heap_alloc _ _ _ (by first | (simp; done) | (simp; omega))).trans ((Below.heap_alloc _ _ _ (by simp)).trans (heap_alloc2_new _ _ _))
  have hxm : ((((w.alloc (.cells #[.slice fa f.length fc, .slice ta t.length tc] 25)).alloc (.cells #[.int .i64 z] 3)).alloc (.cells #[.slice p.ka p.key.length p.kc, .slice p.va p.val.length p.vc, .int .i64 p.ver] 31)).alloc (.cells #[.bool false] 4)).heap[w.heap.size + 1 + 1]? = some (.cells #[.slice p.ka p.key.length p.kc, .slice p.va p.val.length p.vc, .int .i64 p.ver] 31 (0, 0)) := (Below.heap_alloc _ _ _ (by simp)).trans (by
    have := heap_alloc_new ((w.alloc (.cells #[.slice fa f.length fc, .slice ta t.length tc] 25)).alloc (.cells #[.int .i64 z] 3)) (.cells #[.slice p.ka p.key.length p.kc, .slice p.va p.val.length p.vc, .int .i64 p.ver] 31)
    simpa using this)
  have hxr : ((((w.alloc (.cells #[.slice fa f.length fc, .slice ta t.length tc] 25)).alloc (.cells #[.int .i64 z] 3)).alloc (.cells #[.slice p.ka p.key.length p.kc, .slice p.va p.val.length p.vc, .int .i64 p.ver] 31)).alloc (.cells #[.bool false] 4)).heap[w.heap.size + 1 + 1 + 1]? = some (.cells #[.bool false] 4 (0, 0)) := by
    have := heap_alloc_new (((w.alloc (.cells #[.slice fa f.length fc, .slice ta t.length tc] 25)).alloc (.cells #[.int .i64 z] 3)).alloc (.cells #[.slice p.ka p.key.length p.kc, .slice p.va p.val.length p.vc, .int .i64 p.ver] 31)) (.cells #[.bool false] 4)
    simpa using this
  have hsz : ((((w.alloc (.cells #[.slice fa f.length fc, .slice ta t.length tc] 25)).alloc (.cells #[.int .i64 z] 3)).alloc (.cells #[.slice p.ka p.key.length p.kc, .slice p.va p.val.length p.vc, .int .i64 p.ver] 31)).alloc (.cells #[.bool false] 4)).heap.size = w.heap.size + 4 := by simp
  have HX0 := hid hx
  have HF0 := hid hf
  have HT0 := hid ht
  have HP0 := hid hp
  clear hx hf ht hp
  unfold pv
  refine calls_marks Try.func5 rfl ?_
  simp only [Try.ntmps5, List.size_toArray, List.length_cons, List.length_nil, Nat.reduceAdd, Nat.reduceSub, Array.replicate_succ, Array.replicate_zero, List.push_toArray, List.append_toArray, List.nil_append, List.cons_append]
  go_upto_region 1 with fail
  generalize ((((w.alloc (.cells #[.slice fa f.length fc, .slice ta t.length tc] 25)).alloc (.cells #[.int .i64 z] 3)).alloc (.cells #[.slice p.ka p.key.length p.kc, .slice p.va p.val.length p.vc, .int .i64 p.ver] 31)).alloc (.cells #[.bool false] 4)) = wz at *
  have HX := hid (HX0.out.old hbz)
  have HF := hid (HF0.out.old hbz)
  have HT := hid (HT0.out.old hbz)
  have HP := hid (HP0.out.old hbz)
  have HBZ := hid hbz
  have HXS := hid hxs
  have HXT := hid hxt
  have HXM := hid hxm
  have HXR := hid hxr
  have HSZ := hid hsz
  clear hbz hxs hxt hxm hxr hsz
  go_wp2_with (first | (go_at_call 9; refine (new_any wz.heap.size wz (Nat.le_refl _)).mono ?_))
  rintro e w1 ⟨rfl, hM1, hb1⟩
  go_wp2_with (first | (go_at_call 10; refine (awake_any w1).mono ?_))
  rintro e w2 ⟨rfl, hb2⟩
  have HF2 := hid (fill_nil (W0 := wz) hM1 hb1 hb2)
  have HB2 : Hid (Below wz.heap.size wz w2) := HF2.out.below
  clear hM1 hb1 hb2
  by_cases h80 : M.length ≤ 60
  · have e2 : ¬ ((60 : Int) < (M.length : Int)) := by omega
    have e2' : ¬ (60 < M.length) := by omega
    have e2d : decide ((60 : Int) < (M.length : Int)) = false := by simp; omega
    go_wp2_with fail
    clear e2d s1 s2
    go_loopw [10, 11] (fun a i wr => ∃ (k : Nat) (la : Option Addr) (lc : Nat) (A : List Lp) (v : Value) (G : List Pg), k ≤ M.length ∧ i = .int .i64 k ∧ a = .slice la A.length lc ∧ Hid (Fill wz.heap.size wz wz.heap.size k la lc A v G wr)) (fun _ i _ => M.length - (intOf i).toNat)
    case atStart => exact ⟨0, none, 0, [], _, _, by omega, rfl, rfl, HF2⟩
    case round =>
      obtain ⟨k, la, lc, A, v, G, hk, rfl, rfl, HFI⟩ := hrel
      by_cases hlt : k < M.length
      · have hv := List.getElem?_eq_getElem hlt
        generalize M[k] = m at *
        have hbr := HFI.out.below
        obtain ⟨b, off, rfl, d1, d2, d3⟩ := (HX.out.old hbr).get hv
        have hrm := (HX.out.old hbr).at hv
        have o1 := one_rd hrm.1
        have o2 := one_rd hrm.2
        have HRM := hid hrm
        have HRM0 := hid (HX.out.at hv)
        have HV := hid hv
        clear hv hrm hbr
        by_cases hmay : mayE m = 0
        · have CP : Hid (Calls Try.prog 20 #[.pointer (some ⟨wz.heap.size, 0, none⟩), .agg #[.slice m.ka m.key.length m.kc, .slice m.va m.val.length m.vc, .int .i64 m.ver]] wr (fun e w' => e = .returned (.int .i64 0) ∧ ∃ m' v' G', Alike m' m ∧ Turned wz.heap.size wz.heap.size v G (putM (mls G).flatten m') wr w' v' G')) :=
            put_any wz.heap.size wz.heap.size v G m wr HFI.out.mp HFI.out.fit HRM.out hmay (by have := HFI.out.len; omega)
          go_wp2_with (first | (go_at_call 20; refine CP.out.mono ?_))
          rintro e w3 ⟨rfl, m', v', G', hal, ht⟩
          have HT := hid ht
          have HAL := hid hal
          obtain ⟨hb3, hr3, -⟩ := HFI.out.turned ht
          clear d1 d2 d3 hal ht
          obtain ⟨b2, off2, hbo, d1, d2, d3⟩ := (HX.out.old hb3).get HV.out
          simp only [Option.some.injEq, Addr.mk.injEq, and_true] at hbo
          obtain ⟨rfl, rfl⟩ := hbo
          have CH : Hid (Calls Try.prog 23 #[.slice la A.length lc, .agg #[.slice m.ka m.key.length m.kc, .slice m.va m.val.length m.vc, .int .i64 m.ver]] w3 (MadeP w3 (putM A m))) :=
            hput_any _ A m w3 hr3 (HRM0.out.old hb3) (by have := HFI.out.lenA; omega)
          clear hr3
          go_wp2_with (first | (go_at_call 23; refine CH.out.mono ?_))
          rintro e w4 ⟨x, rfl, hx, hb4⟩
          obtain ⟨xa, xc2, rfl, hfill⟩ := Fill.put rfl HFI.out HRM0.out hmay HAL.out HT.out hx hb4
          have HFL := hid hfill
          clear hx hb4 hfill d1 d2 d3 hb3
          go_wp2_with fail
          go_roundw
          case rel => exact ⟨k + 1, xa, xc2, putM A m, v', G', by omega, by go_num, rfl, HFL⟩
          case measure => simp [intOf]; omega
        · have CP : Hid (Calls Try.prog 20 #[.pointer (some ⟨wz.heap.size, 0, none⟩), .agg #[.slice m.ka m.key.length m.kc, .slice m.va m.val.length m.vc, .int .i64 m.ver]] wr (AnsP wr (.int .i64 (mayE m)))) :=
            put_no (some ⟨wz.heap.size, 0, none⟩) m wr HRM.out (.inr hmay)
          have hme : (mayE m == 0) = false := by simpa using hmay
          go_wp2_with (first | (go_at_call 20; refine CP.out.mono ?_))
          rintro e w3 ⟨rfl, hb3⟩
          have HFL : Hid (Fill wz.heap.size wz wz.heap.size (k + 1) la lc A v G w3) := (HFI.out.old hb3).more (by omega)
          clear d1 d2 d3 hb3
          go_wp2_with fail
          go_roundw
          case rel => exact ⟨k + 1, la, lc, A, v, G, by omega, by go_num, rfl, HFL⟩
          case measure => simp [intOf]; omega
      · obtain rfl : k = M.length := by omega
        have hfl0 := HFI.out.len
        have hg0 : G.length ≤ 10000 := by
          have h1 := len_flat (mls G) (fun g hg => (HFI.out.fit.ok g hg).1)
          rw [mls_len] at h1
          omega
        have hA0 := HFI.out.lenA
        have hbr := HFI.out.below
        have HBR := hid hbr
        have HMAY := hid HFI.out.may
        obtain ⟨a0, a1, -, -⟩ := two_cells ((hbr.block _ (lt_of_block HXS.out)).trans HXS.out)
        have CPT : Hid (Calls Try.prog 14 #[.slice la A.length lc, .agg #[.slice fa f.length fc, .slice ta t.length tc]] wr (MadeP wr (A.filter fun m => inSpan f t m.key))) :=
          part_any _ _ _ A f t wr HFI.out.list (HF.out.old hbr) (HT.out.old hbr) (by omega)
        clear hbr
        go_wp2_with (first | (go_at_call 14; refine CPT.out.mono ?_))
        rintro e wp ⟨x, rfl, hx, hbp⟩
        obtain ⟨xa, xc2, rfl⟩ := own_lenG hx
        obtain ⟨PL, hPL⟩ : ∃ PL, PL = A.filter fun m => inSpan f t m.key := ⟨_, rfl⟩
        rw [← hPL] at hx ⊢
        have HFp : Hid (Fill wz.heap.size wz wz.heap.size M.length la lc A v G wp) := HFI.out.old hbp
        have hPLl : PL.length ≤ 60 := by rw [hPL]; exact Nat.le_trans (List.length_filter_le _ _) (by omega)
        have hPLlg : PL.map lg = ((mls G).flatten.filter fun m => inSpan f t m.key).map lg := by rw [hPL]; exact part_lg HFI.out.same
        have hrp : RdG wp ⟨xa, xc2, PL⟩ := Prs.own hx (fun m hm => (HFp.out.list.2 m (by rw [hPL] at hm; exact (List.mem_filter.1 hm).1)))
        have hop : OffG (MX wz.heap.size v) ⟨xa, xc2, PL⟩ := ⟨fun _ a ha hk => by
            have h1 := (hx.lt a.block (by rw [show xa = some a from ha]; rfl)).1
            have h2 := HFI.out.mp.mx_lt _ hk
            omega, fun m hm => HFI.out.off.2 m (by rw [hPL] at hm; exact (List.mem_filter.1 hm).1)⟩
        have HPLG := hid hPLlg
        have HRP := hid hrp
        have HOP := hid hop
        have HBP := hid hbp
        have hb5 : Below wp.heap.size wp (wp.alloc (.cells #[.slice xa PL.length xc2] 29)) := (Below.refl _ _).alloc (Nat.le_refl _) _
        have hx5 : (wp.alloc (.cells #[.slice xa PL.length xc2] 29)).heap[wp.heap.size]? = some (.cells #[.slice xa PL.length xc2] 29 (0, 0)) := heap_alloc_new _ _
        have hs5 : wp.heap.size < (wp.alloc (.cells #[.slice xa PL.length xc2] 29)).heap.size := by simp
        clear hx hPL hPLlg hrp hop hbp a0 a1
        go_upto_region 11 with fail
        generalize wp.alloc (.cells #[.slice xa PL.length xc2] 29) = w5 at *
        have HF5 : Hid (Fill wz.heap.size wz wz.heap.size M.length la lc A v G w5) := HFp.out.old hb5
        have hb5z := HF5.out.below
        obtain ⟨a0, a1, -, -⟩ := two_cells ((hb5z.block _ (lt_of_block HXS.out)).trans HXS.out)
        have CS : Hid (Calls Try.prog 27 #[.pointer (some ⟨wz.heap.size, 0, none⟩), .agg #[.slice fa f.length fc, .slice ta t.length tc], .bool false] w5 (ScanA G f t false w5)) :=
          scan_any _ _ _ G f t false w5 (MapR.of HF5.out.mp) (HF.out.old hb5z) (HT.out.old hb5z) HF5.out.fit.ord (fun g hg => by have := (HF5.out.fit.ok _ (mls_mem hg)).2.1; omega) hg0
        have HB5 := hid hb5
        have HX5 := hid hx5
        have HS5 := hid hs5
        have HRP5 : Hid (RdG w5 ⟨xa, xc2, PL⟩) := HRP.out.old hb5
        clear hb5 hx5 hs5 hb5z
        go_wp2_with (first | (go_at_call 27; refine CS.out.mono ?_))
        rintro e w6 ⟨p9, i9, p9', i9', b, ao, H, hn9, c, rfl, hp9, rfl, hH, hpg, hao, hfr, hbox, hbb, hbel⟩
        obtain ⟨hH8, hHl, hHb, hHm⟩ := scan_has HFI.out.fit hp9 hH hfr hg0 (fun m hm => may_bytes (HFI.out.may m hm))
        have hfl : (mls H).flatten = (mls G).flatten.filter fun m => inSpan f t m.key := span_flat hp9 hH
        have hb6 : b < w6.heap.size := lt_of_block hbox
        have HF6 : Hid (Fill wz.heap.size wz wz.heap.size M.length la lc A v G w6) := HF5.out.old hbel
        have HRP6 : Hid (RdG w6 ⟨xa, xc2, PL⟩) := HRP5.out.old hbel
        have HPB6 : Hid (w6.heap[wp.heap.size]? = some (.cells #[.slice xa PL.length xc2] 29 (0, 0))) := (hbel.block _ (lt_of_block HX5.out)).trans HX5.out
        have hoH : ∀ g ∈ H, OffG (MX wz.heap.size v) g := fun g hg => fromG_offX HF6.out.fit HF6.out.mp.off (hfr g hg)
        have hv5 : ∀ k, MX wz.heap.size v k → k < w5.heap.size := HF5.out.mp.mx_lt
        have HPH : Hid (PL.map lg = (mls H).flatten.map lg) := by show _ = _; rw [hfl]; exact HPLG.out
        have HHH := hid (And.intro hH8 (And.intro hHl hHb))
        have hHrow : ∀ a, ao = some a → H ≠ [] → w5.heap.size ≤ a.block ∧ a.block < w6.heap.size := fun a ha hne => ⟨hao a ha, rws_block (by decide) hpg.1 (fun e => hne (List.map_eq_nil_iff.1 e)) a ha⟩
        have HROW := hid hHrow
        have HPG6 := hid hpg
        have HOH := hid hoH
        have HBX6 := hid hbox
        have HBB := hid hbb
        have HFL := hid hfl
        have HV5 := hid hv5
        have HB65 : Hid (w5.heap.size ≤ w6.heap.size) := hbel.size
        have HB6b : Hid (b < w6.heap.size) := hb6
        clear hp9 hH hpg hao hfr hbox hbb hbel hH8 hHl hHb hHrow hoH hfl hv5 a0 a1 CS
        simp only [Bool.false_eq_true, if_false]
        obtain ⟨m0, m1, m2, -, -, -⟩ := three_cells ((HF6.out.below.block _ (lt_of_block HXM.out)).trans HXM.out)
        have o6 := one_rd HP.out.1
        have o7 := one_rd HP.out.2
        obtain ⟨L1, hL1⟩ : ∃ L1 : Lp → List Lp, L1 = fun m' => if mayE p = 0 then putM (mls G).flatten m' else (mls G).flatten := ⟨_, rfl⟩
        have CP : Hid (Calls Try.prog 20 #[.pointer (some ⟨wz.heap.size, 0, none⟩), .agg #[.slice p.ka p.key.length p.kc, .slice p.va p.val.length p.vc, .int .i64 p.ver]] w6 (fun e w' => e = .returned (.int .i64 (mayE p)) ∧ ∃ m' v' G', Alike m' p ∧ Turned wz.heap.size wz.heap.size v G (L1 m') w6 w' v' G')) := by
          rw [hL1]
          exact put_all wz.heap.size wz.heap.size v G p w6 HF6.out.mp HF6.out.fit (HP.out.old HF6.out.below) (by omega)
        have HL1 := hid hL1
        clear hL1
        go_wp2_with (first | (go_at_call 20; refine CP.out.mono ?_))
        rintro e w7 ⟨rfl, pp, v1, G1, hal1, ht1⟩
        have HT1 := hid ht1
        clear ht1
        have hl1 : (mls G1).flatten.length ≤ 61 := by
          rw [HT1.out.flat, HL1.out]
          show (if mayE p = 0 then putM (mls G).flatten pp else (mls G).flatten).length ≤ 61
          split
          · have := len_putM pp (mls G).flatten; omega
          · omega
        have hg1 : G1.length ≤ 10000 := by
          have h1 := len_flat (mls G1) (fun g hg => (HT1.out.fit.ok g hg).1)
          rw [mls_len] at h1
          omega
        have hmay1 : ∀ m ∈ (mls G1).flatten, m.key.length ≤ 140737488355328 ∧ m.val.length ≤ 140737488355328 := fun m hm => by
          rw [HT1.out.flat, HL1.out] at hm
          have hm : m ∈ (if mayE p = 0 then putM (mls G).flatten pp else (mls G).flatten) := hm
          split at hm
          · rename_i h0
            rcases mem_putM hm with rfl | hm
            · exact may_bytes (by rw [mayE_alike hal1]; exact h0)
            · exact may_bytes (HMAY.out m hm)
          · exact may_bytes (HMAY.out m hm)
        have HMAY1 := hid hmay1
        clear hal1 m0 m1 m2 hmay1
        have hb8 : Below w7.heap.size w7 (w7.alloc (.cells #[.int .u8 64] 5)) := (Below.refl _ _).alloc (Nat.le_refl _) _
        have hc8 : (w7.alloc (.cells #[.int .u8 64] 5)).heap[w7.heap.size]? = some (.cells #[.int .u8 64] 5 (0, 0)) := heap_alloc_new _ _
        have CT : Hid (Calls Try.prog 16 #[.pointer (some ⟨wz.heap.size, 0, none⟩), .agg #[.slice (some ⟨w7.heap.size, 0, none⟩) 1 1, .slice none 0 0]] (w7.alloc (.cells #[.int .u8 64] 5)) (TakeA wz.heap.size wz.heap.size v1 G1 [64] [] (w7.alloc (.cells #[.int .u8 64] 5)))) :=
          take_any wz.heap.size wz.heap.size v1 _ _ _ G1 [64] [] _ (.inr ⟨rfl, HT1.out.mp.old hb8⟩) HT1.out.fit (rd_one _ 64 5 hc8) (Rd.nil _) hg1 HMAY1.out
        have HB8 := hid hb8
        clear hb8 hc8
        go_wp2_with (first | (go_at_call 16; refine CT.out.mono ?_))
        intro e w9 htk
        obtain ⟨xa9, xc9, xs9, v2, G2, rfl, -, -, ht2, -⟩ := take_turned (HT1.out.mp.old HB8.out) HT1.out.fit htk
        -- what stays, from w6 on
        have hk1 := HT1.out.keep
        have hk2 := ht2.keep
        have h76 : w6.heap.size ≤ w7.heap.size := hk1.size
        have hv1 : ∀ k, MX wz.heap.size v1 k → k < w5.heap.size ∨ w6.heap.size ≤ k := fun k hk => by
          rcases hk with e | e
          · exact .inl (HV5.out k (.inl e))
          · rcases HT1.out.vnew k e with e | e
            · exact .inl (HV5.out k (.inr e))
            · exact .inr e
        have hlo1 : ∀ k, MX wz.heap.size v1 k → wz.heap.size ≤ k := HT1.out.mp.mx_lo
        have hlo0 : ∀ k, MX wz.heap.size v k → wz.heap.size ≤ k := HF6.out.mp.mx_lo
        have stay : ∀ k, k < w6.heap.size → ¬ MX wz.heap.size v k → w9.heap[k]? = w6.heap[k]? := fun k h1 q1 => by
          have q2 : ¬ MX wz.heap.size v1 k := fun hx => by
            rcases hx with e | e
            · exact q1 (.inl e)
            · rcases HT1.out.vnew k e with e | e
              · exact q1 (.inr e)
              · omega
          have e1 := hk1.block k h1 q1
          have e2 := (HB8.out.block k (by omega)).trans e1
          exact (hk2.block k (by simp; omega) q2).trans e2
        have hrowx : ∀ X : Nat → Prop, (∀ k, X k → k < w5.heap.size ∨ w6.heap.size ≤ k) → (H.map rowG ≠ [] → ∀ k, blk (Value.slice ao H.length c) = some k → ¬ X k) := fun X hX hne k hk hx => by
          obtain ⟨a, e1, rfl⟩ := blk_of hk
          have h1 := HROW.out a e1 (fun e => hne (by rw [e]; rfl))
          rcases hX _ hx with h | h <;> omega
        have hpg7 : Pgs w7 (.slice ao H.length c) H := ⟨HPG6.out.1.keep hk1 (hrowx _ (fun k hk => .inl (HV5.out k hk))), fun g hg => (HT1.out.list (HPG6.out.2 g hg) (HOH.out g hg)).1⟩
        have hpg9 : Pgs w9 (.slice ao H.length c) H := ⟨(hpg7.1.old HB8.out).keep hk2 (hrowx _ hv1), fun g hg => (ht2.list ((hpg7.2 g hg).old HB8.out) (HT1.out.list (HPG6.out.2 g hg) (HOH.out g hg)).2).1⟩
        have hrp9 : RdG w9 ⟨xa, xc2, PL⟩ := (ht2.list ((HT1.out.list HRP6.out HOP.out).1.old HB8.out) (HT1.out.list HRP6.out HOP.out).2).1
        have hbz9 : Below wz.heap.size wz w9 := (HF6.out.below.trans (hk1.below HF6.out.mp.base_le hlo0)).trans ((HB8.out.mono HT1.out.mp.base_le).trans (hk2.below (HT1.out.mp.old HB8.out).base_le hlo1))
        have hpb : wp.heap.size < w5.heap.size := HS5.out
        have hsz := HSZ.out
        have hwz6 : wz.heap.size ≤ w6.heap.size := HF6.out.below.size
        have hb9 := (stay b HB6b.out (fun hx => by have := HV5.out b hx; have := HBB.out; omega)).trans HBX6.out
        have hpb9 := (stay wp.heap.size (by have := HB65.out; omega) (fun hx => by have := HFp.out.mp.mx_lt _ hx; omega)).trans HPB6.out
        have hst9 := (hbz9.block _ (lt_of_block HXT.out)).trans HXT.out
        have hrs9 := (hbz9.block _ (lt_of_block HXR.out)).trans HXR.out
        obtain ⟨st, hst, hsq⟩ := stop_number z
        have HPG9 := hid hpg9
        have HRP9 := hid hrp9
        have HBZ9 := hid hbz9
        have HB9 := hid hb9
        have HPB9 := hid hpb9
        have HST9 := hid hst9
        have HRS9 := hid hrs9
        have HS9 : Hid (wz.heap.size ≤ w9.heap.size) := hbz9.size
        have HWZ5 : Hid (wz.heap.size ≤ wp.heap.size) := HFp.out.below.size
        have HPB5 : Hid (wp.heap.size < w5.heap.size) := hpb
        have t0 := cell_of0 hst9
        have t9 : w9.frozen? ⟨w.heap.size + 1, 0, none⟩ = false := by simp [World.frozen?, hst9]
        clear hk1 hk2 h76 hv1 hlo1 hlo0 stay hrowx hpg7 hpg9 hrp9 hbz9 hpb hb9 hpb9 hst9 hrs9 ht2 htk hwz6 hsz
        go_upto_region 15 with fail
        rw [hsq]
        have hkS : Keep (fun k => k = w.heap.size + 1) w9 (w9.setCell ⟨w.heap.size + 1, 0, none⟩ (.int .i64 (st : Int))) := Keep.of_grown (grownBy_setCell' w9 (w.heap.size + 1) _) (fun k e => by cases e; rfl)
        have hstX : (w9.setCell ⟨w.heap.size + 1, 0, none⟩ (.int .i64 (st : Int))).heap[w.heap.size + 1]? = some (.cells #[.int .i64 (st : Int)] 3 (0, 0)) := Boxed.set _ HST9.out
        generalize w9.setCell ⟨w.heap.size + 1, 0, none⟩ (.int .i64 (st : Int)) = wq at *
        have hoI : ∀ g, RdG w9 g → OffG (fun k => k = w.heap.size + 1) g := fun g hg => hg.offInt HST9.out
        have hbq : Below w.heap.size w wq := (HBZ.out.trans (HBZ9.out.mono HBZ.out.size)).trans (hkS.below (by have := HS9.out; have := HSZ.out; omega) (fun k e => by omega))
        have hpgq : Pgs wq (.slice ao H.length c) H := ⟨HPG9.out.1.keep hkS (fun hne k hk e => by
            obtain ⟨a, e1, rfl⟩ := blk_of hk
            have h0 : H ≠ [] := fun e => hne (by rw [e]; rfl)
            obtain ⟨g, hg⟩ := List.exists_mem_of_ne_nil H h0
            obtain ⟨i0, hi0⟩ := List.mem_iff_getElem?.1 hg
            obtain ⟨bb, off, e2, h9⟩ := HPG9.out.get hi0
            rw [e1] at e2
            cases e2
            have := cell_int HST9.out h9 e
            cases this), fun g hg => (HPG9.out.2 g hg).keep hkS (hoI g (HPG9.out.2 g hg))⟩
        have hrpq : RdG wq ⟨xa, xc2, PL⟩ := HRP9.out.keep hkS (hoI _ HRP9.out)
        have hszz := HSZ.out
        have hbq1 := (hkS.block b (lt_of_block HB9.out) (by have := HBB.out; have := HWZ5.out; have := HPB5.out; omega)).trans HB9.out
        have hpbq := (hkS.block wp.heap.size (lt_of_block HPB9.out) (by have := HWZ5.out; omega)).trans HPB9.out
        have hrsq := (hkS.block (w.heap.size + 1 + 1 + 1) (lt_of_block HRS9.out) (by omega)).trans HRS9.out
        have HBQ := hid hbq
        have HPGQ := hid hpgq
        have HRPQ := hid hrpq
        have HB1Q := hid hbq1
        have HPBQ := hid hpbq
        have HRSQ := hid hrsq
        have HSTQ := hid hstX
        clear hoI hbq hpgq hrpq hbq1 hpbq hrsq hstX hkS hszz t0 t9
        go_wp2_with fail
        refine wp_loop_rounds 3 ?_
        have HBD0 : Hid (Below wq.heap.size wq wq) := Below.refl _ _
        rw [rounds_succ]
        go_upto_block 4 with fail
        have hbn0 : Below wq.heap.size wq (wq.alloc (.cells #[.int .i64 0] 3)) := (Below.refl _ _).alloc (Nat.le_refl _) _
        have hnb0 : Boxed (wq.alloc (.cells #[.int .i64 0] 3)) wq.heap.size 3 (.int .i64 0) := Boxed.new _ _ _
        have hns0 : wq.heap.size < (wq.alloc (.cells #[.int .i64 0] 3)).heap.size := by simp
        have HBN0 : Hid (Below wq.heap.size wq (wq.alloc (.cells #[.int .i64 0] 3))) := HBD0.out.trans (hbn0.mono HBD0.out.size)
        generalize wq.alloc (.cells #[.int .i64 0] 3) = n0 at *
        have HNS0 := hid hns0
        have HWS0 : Hid (wq.heap.size ≤ wq.heap.size) := HBD0.out.size
        have HQZ0 : Hid (∀ Z, KpX wq.heap.size n0.heap.size n0 Z → Below wq.heap.size wq Z) := fun Z h => HBN0.out.trans (h.below (Nat.le_trans HWS0.out (Nat.le_of_lt HNS0.out)) HWS0.out)
        have HSQ0 := hid (rising_seq (9 - 1) (by omega) b n0.heap.size ao c H n0 HHH.out.1 HHH.out.2.1 HHH.out.2.2 (KpX wq.heap.size n0.heap.size) (KpX.refl _ _) (fun h k => h.trans k) (fun h => h.size) (fun h k => KpX.of k h) (Nat.le_refl _) (fun Z h => ⟨cell_of0 (((HQZ0.out Z h).block _ (lt_of_block HB1Q.out)).trans HB1Q.out), HPGQ.out.old (HQZ0.out Z h)⟩))
        clear hbn0 hns0
        refine wp_range_cut (fun D Z => n0.heap.size ≤ D ∧ Z.heap[D]? = some (.deferred (some [])) ∧ ∃ q : Nat, Cnt wq.heap.size n0.heap.size n0 (q : Int) Z ∧ ((q = PL.length ∧ (st = 0 ∨ q < st)) ∨ (q = st ∧ 0 < st ∧ q ≤ PL.length))) ?rg0 ?rs0
        case rg0 =>
          go_wp2_with fail
          refine wpIn_wide.1 (range_outer (n := 9) rfl (by omega) (gf := 54) (lb := #[.pointer (some ⟨b, 0, none⟩)]) ?hg trivial (enters_of Try.func54 (by kernel_rfl) rfl)
            HSQ0.out (fun h k => h.trans k) (fun W W' l hl ht => KpX.turn ht hl) (Below.refl _ _) (fun _ => rfl)
            (fun pre Z => Cnt wq.heap.size n0.heap.size n0 (pre.length : Int) Z ∧ (st = 0 ∨ pre.length < st))
            (fun cd pre Z => Cnt wq.heap.size n0.heap.size n0 (pre.length : Int) Z ∧ (cd = .exit 4 ∧ pre.length = st ∧ pre.length ≤ PL.length ∧ 0 < pre.length))
            (OwnFrom.and (Cnt.own (fun pre : List Lp => (pre.length : Int)) (Nat.le_refl _) (Nat.le_refl _) HNS0.out) (ownFrom_pure _ _))
            (fun cd => OwnFrom.and (Cnt.own (fun pre : List Lp => (pre.length : Int)) (Nat.le_refl _) (Nat.le_refl _) HNS0.out) (ownFrom_pure _ _))
            ⟨⟨KpX.refl _ _ _, hnb0⟩, by have : ([] : List Lp).length = 0 := rfl; omega⟩
            ?round ?done ?stop)
          case hg => rfl
          case done =>
            rintro D xs Z hD hS ⟨hcnt, hs⟩ hK
            have hxl : xs.length = PL.length := by
              have h1 := congrArg List.length hS
              have h2 := congrArg List.length HPH.out
              simp only [List.length_map] at h1 h2
              omega
            exact ⟨rfl, D, rfl, by omega, hK, xs.length, hcnt, .inl ⟨hxl, hs⟩⟩
          case stop =>
            rintro D cd pre Z hD hSp ⟨hcnt, rfl, h1, h2, hpos⟩ hK
            refine wpIn_wide.2 (wp_exit ?_)
            exact ⟨rfl, D, rfl, by omega, hK, pre.length, hcnt, .inr ⟨h1, by omega, h2⟩⟩
          case round =>
            intro l pre m W hl1 hr hcnt hx
            obtain ⟨hcnt, hsp⟩ := hcnt
            obtain ⟨hmi, q, hq, hal⟩ := hx
            have hlen : pre.length < PL.length := by
              have h1 := (List.getElem?_eq_some_iff.1 hq).1
              have h2 := congrArg List.length HPH.out
              simp only [List.length_map] at h2
              omega
            have hv := List.getElem?_eq_getElem hlen
            generalize PL[pre.length] = a at *
            have hsame : sameP m a = true := lg_same (by rw [alike_lg hal]; exact (lg_at HPH.out hv hq).symm)
            have o1 := one_rd hmi.rd.1
            have o2 := one_rd hmi.rd.2
            have HMI := hid hmi
            have HCN := hid hcnt
            have HV := hid hv
            have HSP := hid hsp
            have hsW : n0.heap.size ≤ W.heap.size := hcnt.keep.size
            have hbw := HNS0.out
            clear hmi hcnt hr hq hal hv hsp
            unfold pv
            gi_wp2
            have hbA : Below W.heap.size W (W.alloc (.cells #[.slice m.ka m.key.length m.kc, .slice m.va m.val.length m.vc, .int .i64 m.ver] 31)) := (Below.refl _ _).alloc (Nat.le_refl _) _
            have hxA : (W.alloc (.cells #[.slice m.ka m.key.length m.kc, .slice m.va m.val.length m.vc, .int .i64 m.ver] 31)).heap[W.heap.size]? = some (.cells #[.slice m.ka m.key.length m.kc, .slice m.va m.val.length m.vc, .int .i64 m.ver] 31 (0, 0)) := heap_alloc_new _ _
            refine ⟨kf_below hbA, KpX.of hbA hsW, fun Wb hT => ?_⟩
            generalize W.alloc (.cells #[.slice m.ka m.key.length m.kc, .slice m.va m.val.length m.vc, .int .i64 m.ver] 31) = WA at *
            have hsA : n0.heap.size ≤ WA.heap.size := Nat.le_trans hsW hbA.size
            have HCb : Hid (Cnt wq.heap.size n0.heap.size n0 (pre.length : Int) Wb) := (HCN.out.old hsW hbA hbw).grown hsA hT.grown (fun r e => by cases e; exact hl1) hbw
            have hmA : Mine n0.heap.size WA m := HMI.out.old hbA
            have HMb : Hid (Mine n0.heap.size Wb m) := by
              obtain ⟨o, ho, hc⟩ := hT.old
              exact hmA.kept hT.grown (own_ne_block hmA.k ho (fun cur e => by rw [e] at hc; cases hc)) (own_ne_block hmA.v ho (fun cur e => by rw [e] at hc; cases hc))
            have hxB : Wb.heap[W.heap.size]? = some (.cells #[.slice m.ka m.key.length m.kc, .slice m.va m.val.length m.vc, .int .i64 m.ver] 31 (0, 0)) := heap_kept hT.grown hxA (fun e9 => by
              cases e9
              obtain ⟨o, ho, hc⟩ := hT.old
              rw [hxA] at ho
              cases ho
              cases hc)
            have hsb : n0.heap.size ≤ Wb.heap.size := HCb.out.keep.size
            have hQb := HQZ0.out Wb HCb.out.keep
            have HQb := hid hQb
            obtain ⟨p0, p1, p2, -, -, -⟩ := three_cells hxB
            have hprb : RdG Wb ⟨xa, xc2, PL⟩ := HRPQ.out.old hQb
            obtain ⟨b2, off2, rfl, e1, e2, e3⟩ := Prs.get (show Prs Wb (.slice xa PL.length xc2) PL from hprb) HV.out
            have hra := hprb.2 a (List.mem_of_getElem? HV.out)
            have o3 := one_rd hra.1
            have o4 := one_rd hra.2
            have c0 := HCb.out.box.cell
            have t0 := cell_of0 ((hQb.block _ (lt_of_block HPBQ.out)).trans HPBQ.out)
            have CPR : Hid (∀ nn, CallsIn (Fence.wide.inRound l) nn Try.prog 17 #[.agg #[.slice m.ka m.key.length m.kc, .slice m.va m.val.length m.vc, .int .i64 m.ver], .agg #[.slice a.ka a.key.length a.kc, .slice a.va a.val.length a.vc, .int .i64 a.ver]] Wb.drew (AnsP Wb.drew (.bool true))) := fun nn => by
              rw [← hsame]
              exact CallsIn.inRound l (callsIn_wide.2 (pair_any m a Wb.drew HMb.out.rd hra))
            have hnlt : ¬ ((PL.length : Int) ≤ (pre.length : Int)) := by omega
            have hnld : decide (PL.length ≤ pre.length) = false := decide_eq_false (by omega)
            have hw1 : IntKind.i64.wrap ((pre.length : Int) + 1) = (pre.length : Int) + 1 := by rw [IntKind.wrap_i64]; omega
            have hbw2 := hid hbw
            have hsb2 := hid hsb
            clear hT hxA hbA hmA hxB hprb hra hsame hQb hbw
            gi_wp2
            gi_upto_region 21 with fail
            gi_cut [84] from 72 (fun c wx => c = .bool false ∧ Hid (Below Wb.heap.size Wb wx))
            case first =>
              gi_region_with (first | (refine ⟨trivial, ?_⟩; gi_at_call 17; refine (CPR.out _).mono ?_; rintro e W6 ⟨rfl, hb6⟩))
              all_goals (gi_wp2; gi_meet; exact ⟨by simp only [hnld], (Below.refl _ _).drew.trans hb6⟩)
            case rest =>
              obtain ⟨rfl, HB6⟩ := hcut
              generalize wc = W6 at *
              have hC6 : Cnt wq.heap.size n0.heap.size n0 (pre.length : Int) W6 := HCb.out.old hsb HB6.out hbw2.out
              have hs6 : n0.heap.size ≤ W6.heap.size := hC6.keep.size
              have f0 := hC6.box.cell
              have f9 := hC6.box.frozen
              have hC7 := hC6.set hs6 ((pre.length : Int) + 1)
              have hk7 : KeepsFrom n0.heap.size Wb (W6.setCell ⟨wq.heap.size, 0, none⟩ (.int .i64 ((pre.length : Int) + 1))) := (kf_below HB6.out).trans ((KeepsOthers.setCell W6 ⟨wq.heap.size, 0, none⟩ (.int .i64 ((pre.length : Int) + 1))).from n0.heap.size)
              have hp7 : KpX wq.heap.size n0.heap.size Wb (W6.setCell ⟨wq.heap.size, 0, none⟩ (.int .i64 ((pre.length : Int) + 1))) := (KpX.of HB6.out hsb).trans (KpX.grown (grownBy_setCell' W6 wq.heap.size _) hs6 (fun k e => by cases e; exact .inr rfl))
              have HC7 := hid hC7
              have HK7 := hid hk7
              have HP7 := hid hp7
              clear hC6 hC7 hk7 hp7 p0 p1 p2 e1 e2 e3 c0 t0
              gi_upto_region 24 with fail
              generalize W6.setCell ⟨wq.heap.size, 0, none⟩ (.int .i64 ((pre.length : Int) + 1)) = W7 at *
              clear f0 f9
              have g0 := HC7.out.box.cell
              have g1 := cell_of0 (((HQZ0.out W7 HC7.out.keep).block _ (lt_of_block HSTQ.out)).trans HSTQ.out)
              have hc7 : Cnt wq.heap.size n0.heap.size n0 (((pre ++ [m]).length : Nat) : Int) W7 := by
                have h := HC7.out
                rw [List.length_append, List.length_singleton, Int.natCast_add]
                exact h
              have HC7b := hid hc7
              clear hc7
              by_cases hstop : pre.length + 1 = st
              · have e8 : (pre.length : Int) + 1 = (st : Int) := by omega
                have e8' : ((pre.length : Int) + 1 == (st : Int)) = true := by simpa using e8
                gi_wp2
                exact ⟨HK7.out, HC7b.out, rfl, by rw [List.length_append, List.length_singleton]; exact hstop, by rw [List.length_append, List.length_singleton]; omega, by rw [List.length_append, List.length_singleton]; omega⟩
              · have e8 : ¬ ((pre.length : Int) + 1 = (st : Int)) := by omega
                have e8' : ((pre.length : Int) + 1 == (st : Int)) = false := by simpa using e8
                gi_wp2
                exact ⟨HK7.out, HP7.out, HC7b.out, by have h := HSP.out; rw [List.length_append, List.length_singleton]; omega⟩
        case rs0 =>
          rintro D0 Z0 ⟨hD0, hK0, q0, hcnt0, hq0⟩
          have HBD1 : Hid (Below wq.heap.size wq Z0) := HQZ0.out Z0 hcnt0.keep
          have HKD0 := hid hK0
          have HDD0 := hid hD0
          have HKX0 := hid hcnt0.keep
          have c0 := hcnt0.box.cell
          have t0 := cell_of0 ((HBD1.out.block _ (lt_of_block HPBQ.out)).trans HPBQ.out)
          have g1 := cell_of0 ((HBD1.out.block _ (lt_of_block HSTQ.out)).trans HSTQ.out)
          have r1 := cell_of0 ((HBD1.out.block _ (lt_of_block HRSQ.out)).trans HRSQ.out)
          have HQQ0 := hid hq0
          clear hcnt0 hK0 hD0 hq0
          go_upto_region 25 with fail
          go_cut [106] from 90 to 105 (fun cc wx => cc = .bool false ∧ wx = Z0)
          case first =>
            rcases HQQ0.out with ⟨rfl, hs0⟩ | ⟨rfl, h1, h2⟩
            · rcases hs0 with rfl | hs0
              · go_wp2_with fail
                all_goals (go_meet; refine ⟨?_, rfl⟩; first | rfl | (simp; done) | (simp; omega) | (simp_all; done))
              · have k1 : ¬ (st < PL.length) := by omega
                have k2 : PL.length < st := hs0
                go_wp2_with fail
                all_goals (go_meet; refine ⟨?_, rfl⟩; first | rfl | (simp; done) | (simp; omega) | (simp_all; done))
            · go_wp2_with fail
              all_goals (go_meet; refine ⟨?_, rfl⟩; first | rfl | (simp; done) | (simp; omega) | (simp_all; done))
          case rest =>
            obtain ⟨rfl, hwc⟩ := hcut
            rw [hwc]
            clear hwc
            clear c0 t0 g1 r1
            go_wp2_with fail
            rw [rounds_succ]
            go_upto_block 4 with fail
            have hbn1 : Below Z0.heap.size Z0 (Z0.alloc (.cells #[.int .i64 0] 3)) := (Below.refl _ _).alloc (Nat.le_refl _) _
            have hnb1 : Boxed (Z0.alloc (.cells #[.int .i64 0] 3)) Z0.heap.size 3 (.int .i64 0) := Boxed.new _ _ _
            have hns1 : Z0.heap.size < (Z0.alloc (.cells #[.int .i64 0] 3)).heap.size := by simp
            have HB01 := hid hbn1
            have HBN1 : Hid (Below wq.heap.size wq (Z0.alloc (.cells #[.int .i64 0] 3))) := HBD1.out.trans (hbn1.mono HBD1.out.size)
            generalize Z0.alloc (.cells #[.int .i64 0] 3) = n1 at *
            have HNS1 := hid hns1
            have HWS1 : Hid (wq.heap.size ≤ Z0.heap.size) := HBD1.out.size
            have HQZ1 : Hid (∀ Z, KpX Z0.heap.size n1.heap.size n1 Z → Below wq.heap.size wq Z) := fun Z h => HBN1.out.trans (h.below (Nat.le_trans HWS1.out (Nat.le_of_lt HNS1.out)) HWS1.out)
            have HSQ1 := hid (rising_seq (9 - 1) (by omega) b n1.heap.size ao c H n1 HHH.out.1 HHH.out.2.1 HHH.out.2.2 (KpX Z0.heap.size n1.heap.size) (KpX.refl _ _) (fun h k => h.trans k) (fun h => h.size) (fun h k => KpX.of k h) (Nat.le_refl _) (fun Z h => ⟨cell_of0 (((HQZ1.out Z h).block _ (lt_of_block HB1Q.out)).trans HB1Q.out), HPGQ.out.old (HQZ1.out Z h)⟩))
            clear hbn1 hns1
            refine wp_range_cut (fun D Z => n1.heap.size ≤ D ∧ Z.heap[D]? = some (.deferred (some [])) ∧ ∃ q : Nat, Cnt Z0.heap.size n1.heap.size n1 (q : Int) Z ∧ ((q = PL.length ∧ (st = 0 ∨ q < st)) ∨ (q = st ∧ 0 < st ∧ q ≤ PL.length))) ?rg1 ?rs1
            case rg1 =>
              go_wp2_with fail
              refine wpIn_wide.1 (range_outer (n := 9) rfl (by omega) (gf := 54) (lb := #[.pointer (some ⟨b, 0, none⟩)]) ?hg trivial (enters_of Try.func54 (by kernel_rfl) rfl)
                HSQ1.out (fun h k => h.trans k) (fun W W' l hl ht => KpX.turn ht hl) (Below.refl _ _) (fun _ => rfl)
                (fun pre Z => Cnt Z0.heap.size n1.heap.size n1 (pre.length : Int) Z ∧ (st = 0 ∨ pre.length < st))
                (fun cd pre Z => Cnt Z0.heap.size n1.heap.size n1 (pre.length : Int) Z ∧ (cd = .exit 4 ∧ pre.length = st ∧ pre.length ≤ PL.length ∧ 0 < pre.length))
                (OwnFrom.and (Cnt.own (fun pre : List Lp => (pre.length : Int)) (Nat.le_refl _) (Nat.le_refl _) HNS1.out) (ownFrom_pure _ _))
                (fun cd => OwnFrom.and (Cnt.own (fun pre : List Lp => (pre.length : Int)) (Nat.le_refl _) (Nat.le_refl _) HNS1.out) (ownFrom_pure _ _))
                ⟨⟨KpX.refl _ _ _, hnb1⟩, by have : ([] : List Lp).length = 0 := rfl; omega⟩
                ?round ?done ?stop)
              case hg => rfl
              case done =>
                rintro D xs Z hD hS ⟨hcnt, hs⟩ hK
                have hxl : xs.length = PL.length := by
                  have h1 := congrArg List.length hS
                  have h2 := congrArg List.length HPH.out
                  simp only [List.length_map] at h1 h2
                  omega
                exact ⟨rfl, D, rfl, by omega, hK, xs.length, hcnt, .inl ⟨hxl, hs⟩⟩
              case stop =>
                rintro D cd pre Z hD hSp ⟨hcnt, rfl, h1, h2, hpos⟩ hK
                refine wpIn_wide.2 (wp_exit ?_)
                exact ⟨rfl, D, rfl, by omega, hK, pre.length, hcnt, .inr ⟨h1, by omega, h2⟩⟩
              case round =>
                intro l pre m W hl1 hr hcnt hx
                obtain ⟨hcnt, hsp⟩ := hcnt
                obtain ⟨hmi, q, hq, hal⟩ := hx
                have hlen : pre.length < PL.length := by
                  have h1 := (List.getElem?_eq_some_iff.1 hq).1
                  have h2 := congrArg List.length HPH.out
                  simp only [List.length_map] at h2
                  omega
                have hv := List.getElem?_eq_getElem hlen
                generalize PL[pre.length] = a at *
                have hsame : sameP m a = true := lg_same (by rw [alike_lg hal]; exact (lg_at HPH.out hv hq).symm)
                have o1 := one_rd hmi.rd.1
                have o2 := one_rd hmi.rd.2
                have HMI := hid hmi
                have HCN := hid hcnt
                have HV := hid hv
                have HSP := hid hsp
                have hsW : n1.heap.size ≤ W.heap.size := hcnt.keep.size
                have hbw := HNS1.out
                clear hmi hcnt hr hq hal hv hsp
                unfold pv
                gi_wp2
                have hbA : Below W.heap.size W (W.alloc (.cells #[.slice m.ka m.key.length m.kc, .slice m.va m.val.length m.vc, .int .i64 m.ver] 31)) := (Below.refl _ _).alloc (Nat.le_refl _) _
                have hxA : (W.alloc (.cells #[.slice m.ka m.key.length m.kc, .slice m.va m.val.length m.vc, .int .i64 m.ver] 31)).heap[W.heap.size]? = some (.cells #[.slice m.ka m.key.length m.kc, .slice m.va m.val.length m.vc, .int .i64 m.ver] 31 (0, 0)) := heap_alloc_new _ _
                refine ⟨kf_below hbA, KpX.of hbA hsW, fun Wb hT => ?_⟩
                generalize W.alloc (.cells #[.slice m.ka m.key.length m.kc, .slice m.va m.val.length m.vc, .int .i64 m.ver] 31) = WA at *
                have hsA : n1.heap.size ≤ WA.heap.size := Nat.le_trans hsW hbA.size
                have HCb : Hid (Cnt Z0.heap.size n1.heap.size n1 (pre.length : Int) Wb) := (HCN.out.old hsW hbA hbw).grown hsA hT.grown (fun r e => by cases e; exact hl1) hbw
                have hmA : Mine n1.heap.size WA m := HMI.out.old hbA
                have HMb : Hid (Mine n1.heap.size Wb m) := by
                  obtain ⟨o, ho, hc⟩ := hT.old
                  exact hmA.kept hT.grown (own_ne_block hmA.k ho (fun cur e => by rw [e] at hc; cases hc)) (own_ne_block hmA.v ho (fun cur e => by rw [e] at hc; cases hc))
                have hxB : Wb.heap[W.heap.size]? = some (.cells #[.slice m.ka m.key.length m.kc, .slice m.va m.val.length m.vc, .int .i64 m.ver] 31 (0, 0)) := heap_kept hT.grown hxA (fun e9 => by
                  cases e9
                  obtain ⟨o, ho, hc⟩ := hT.old
                  rw [hxA] at ho
                  cases ho
                  cases hc)
                have hsb : n1.heap.size ≤ Wb.heap.size := HCb.out.keep.size
                have hQb := HQZ1.out Wb HCb.out.keep
                have HQb := hid hQb
                obtain ⟨p0, p1, p2, -, -, -⟩ := three_cells hxB
                have hprb : RdG Wb ⟨xa, xc2, PL⟩ := HRPQ.out.old hQb
                obtain ⟨b2, off2, rfl, e1, e2, e3⟩ := Prs.get (show Prs Wb (.slice xa PL.length xc2) PL from hprb) HV.out
                have hra := hprb.2 a (List.mem_of_getElem? HV.out)
                have o3 := one_rd hra.1
                have o4 := one_rd hra.2
                have c0 := HCb.out.box.cell
                have t0 := cell_of0 ((hQb.block _ (lt_of_block HPBQ.out)).trans HPBQ.out)
                have CPR : Hid (∀ nn, CallsIn (Fence.wide.inRound l) nn Try.prog 17 #[.agg #[.slice m.ka m.key.length m.kc, .slice m.va m.val.length m.vc, .int .i64 m.ver], .agg #[.slice a.ka a.key.length a.kc, .slice a.va a.val.length a.vc, .int .i64 a.ver]] Wb.drew (AnsP Wb.drew (.bool true))) := fun nn => by
                  rw [← hsame]
                  exact CallsIn.inRound l (callsIn_wide.2 (pair_any m a Wb.drew HMb.out.rd hra))
                have hnlt : ¬ ((PL.length : Int) ≤ (pre.length : Int)) := by omega
                have hnld : decide (PL.length ≤ pre.length) = false := decide_eq_false (by omega)
                have hw1 : IntKind.i64.wrap ((pre.length : Int) + 1) = (pre.length : Int) + 1 := by rw [IntKind.wrap_i64]; omega
                have hbw2 := hid hbw
                have hsb2 := hid hsb
                clear hT hxA hbA hmA hxB hprb hra hsame hQb hbw
                gi_wp2
                gi_upto_region 21 with fail
                gi_cut [84] from 72 (fun c wx => c = .bool false ∧ Hid (Below Wb.heap.size Wb wx))
                case first =>
                  gi_region_with (first | (refine ⟨trivial, ?_⟩; gi_at_call 17; refine (CPR.out _).mono ?_; rintro e W6 ⟨rfl, hb6⟩))
                  all_goals (gi_wp2; gi_meet; exact ⟨by simp only [hnld], (Below.refl _ _).drew.trans hb6⟩)
                case rest =>
                  obtain ⟨rfl, HB6⟩ := hcut
                  generalize wc = W6 at *
                  have hC6 : Cnt Z0.heap.size n1.heap.size n1 (pre.length : Int) W6 := HCb.out.old hsb HB6.out hbw2.out
                  have hs6 : n1.heap.size ≤ W6.heap.size := hC6.keep.size
                  have f0 := hC6.box.cell
                  have f9 := hC6.box.frozen
                  have hC7 := hC6.set hs6 ((pre.length : Int) + 1)
                  have hk7 : KeepsFrom n1.heap.size Wb (W6.setCell ⟨Z0.heap.size, 0, none⟩ (.int .i64 ((pre.length : Int) + 1))) := (kf_below HB6.out).trans ((KeepsOthers.setCell W6 ⟨Z0.heap.size, 0, none⟩ (.int .i64 ((pre.length : Int) + 1))).from n1.heap.size)
                  have hp7 : KpX Z0.heap.size n1.heap.size Wb (W6.setCell ⟨Z0.heap.size, 0, none⟩ (.int .i64 ((pre.length : Int) + 1))) := (KpX.of HB6.out hsb).trans (KpX.grown (grownBy_setCell' W6 Z0.heap.size _) hs6 (fun k e => by cases e; exact .inr rfl))
                  have HC7 := hid hC7
                  have HK7 := hid hk7
                  have HP7 := hid hp7
                  clear hC6 hC7 hk7 hp7 p0 p1 p2 e1 e2 e3 c0 t0
                  gi_upto_region 24 with fail
                  generalize W6.setCell ⟨Z0.heap.size, 0, none⟩ (.int .i64 ((pre.length : Int) + 1)) = W7 at *
                  clear f0 f9
                  have g0 := HC7.out.box.cell
                  have g1 := cell_of0 (((HQZ1.out W7 HC7.out.keep).block _ (lt_of_block HSTQ.out)).trans HSTQ.out)
                  have hc7 : Cnt Z0.heap.size n1.heap.size n1 (((pre ++ [m]).length : Nat) : Int) W7 := by
                    have h := HC7.out
                    rw [List.length_append, List.length_singleton, Int.natCast_add]
                    exact h
                  have HC7b := hid hc7
                  clear hc7
                  by_cases hstop : pre.length + 1 = st
                  · have e8 : (pre.length : Int) + 1 = (st : Int) := by omega
                    have e8' : ((pre.length : Int) + 1 == (st : Int)) = true := by simpa using e8
                    gi_wp2
                    exact ⟨HK7.out, HC7b.out, rfl, by rw [List.length_append, List.length_singleton]; exact hstop, by rw [List.length_append, List.length_singleton]; omega, by rw [List.length_append, List.length_singleton]; omega⟩
                  · have e8 : ¬ ((pre.length : Int) + 1 = (st : Int)) := by omega
                    have e8' : ((pre.length : Int) + 1 == (st : Int)) = false := by simpa using e8
                    gi_wp2
                    exact ⟨HK7.out, HP7.out, HC7b.out, by have h := HSP.out; rw [List.length_append, List.length_singleton]; omega⟩
            case rs1 =>
              rintro D1 Z1 ⟨hD1, hK1, q1, hcnt1, hq1⟩
              have HBD2 : Hid (Below wq.heap.size wq Z1) := HQZ1.out Z1 hcnt1.keep
              have HKD1 := hid hK1
              have HDD1 := hid hD1
              have HKX1 := hid hcnt1.keep
              have c0 := hcnt1.box.cell
              have t0 := cell_of0 ((HBD2.out.block _ (lt_of_block HPBQ.out)).trans HPBQ.out)
              have g1 := cell_of0 ((HBD2.out.block _ (lt_of_block HSTQ.out)).trans HSTQ.out)
              have r1 := cell_of0 ((HBD2.out.block _ (lt_of_block HRSQ.out)).trans HRSQ.out)
              have HQQ1 := hid hq1
              clear hcnt1 hK1 hD1 hq1
              go_upto_region 25 with fail
              go_cut [106] from 90 to 105 (fun cc wx => cc = .bool false ∧ wx = Z1)
              case first =>
                rcases HQQ1.out with ⟨rfl, hs0⟩ | ⟨rfl, h1, h2⟩
                · rcases hs0 with rfl | hs0
                  · go_wp2_with fail
                    all_goals (go_meet; refine ⟨?_, rfl⟩; first | rfl | (simp; done) | (simp; omega) | (simp_all; done))
                  · have k1 : ¬ (st < PL.length) := by omega
                    have k2 : PL.length < st := hs0
                    go_wp2_with fail
                    all_goals (go_meet; refine ⟨?_, rfl⟩; first | rfl | (simp; done) | (simp; omega) | (simp_all; done))
                · go_wp2_with fail
                  all_goals (go_meet; refine ⟨?_, rfl⟩; first | rfl | (simp; done) | (simp; omega) | (simp_all; done))
              case rest =>
                obtain ⟨rfl, hwc⟩ := hcut
                rw [hwc]
                clear hwc
                clear c0 t0 g1
                have r9 : Z1.frozen? ⟨w.heap.size + 1 + 1 + 1, 0, none⟩ = false := by
                  have h9 := (HBD2.out.block _ (lt_of_block HRSQ.out)).trans HRSQ.out
                  simp [World.frozen?, h9]
                go_wp2_with fail
                rw [rounds_succ]
                go_wp2_with fail
                have hw3 := lt_of_block HRSQ.out
                have hd0 := HDD0.out
                have hd1 := HDD1.out
                have hn0 := HNS0.out
                have hn1 := HNS1.out
                have hs1 := HWS1.out
                have hdz := lt_of_block HKD0.out
                have hk0 : Z1.heap[D0]? = some (.deferred (some [])) := (HKX1.out.block D0 (by omega) (by omega)).trans ((HB01.out.block D0 hdz).trans HKD0.out)
                have hb9 : Below w.heap.size w (Z1.setCell ⟨w.heap.size + 1 + 1 + 1, 0, none⟩ (.bool true)) := (HBQ.out.trans (HBD2.out.mono HBQ.out.size)).setCell (by show w.heap.size ≤ w.heap.size + 1 + 1 + 1; omega) _
                have ha1 : (Z1.setCell ⟨w.heap.size + 1 + 1 + 1, 0, none⟩ (.bool true)).heap[D1]? = some (.deferred (some [])) := (Below.heap_setCell Z1 ⟨w.heap.size + 1 + 1 + 1, 0, none⟩ _ D1 (by show D1 ≠ w.heap.size + 1 + 1 + 1; omega)).trans HKD1.out
                have ha2 : (Z1.setCell ⟨w.heap.size + 1 + 1 + 1, 0, none⟩ (.bool true)).heap[D0]? = some (.deferred (some [])) := (Below.heap_setCell Z1 ⟨w.heap.size + 1 + 1 + 1, 0, none⟩ _ D0 (by show D0 ≠ w.heap.size + 1 + 1 + 1; omega)).trans hk0
                have ha3 : (Z1.setCell ⟨w.heap.size + 1 + 1 + 1, 0, none⟩ (.bool true)).heap[w.heap.size + 1 + 1 + 1]? = some (.cells #[.bool true] 4 (0, 0)) := Boxed.set (.bool true) ((HBD2.out.block _ (lt_of_block HRSQ.out)).trans HRSQ.out)
                have hne01 : D1 ≠ D0 := by omega
                refine ⟨by simp, .inl ⟨_, _, rfl, run_takeDeferred ha1, by simp, .inl ⟨_, _, rfl, run_takeDeferred ((World.putObj_heap_other (Ne.symm hne01)).trans ha2), ?_⟩⟩⟩
                refine ⟨.bool true, results_bool rfl _ _ (w.heap.size + 1 + 1 + 1) true rfl (cell_of0 ((World.putObj_heap_other (by omega)).trans ((World.putObj_heap_other (by omega)).trans ha3))), rfl, ?_⟩
                exact (hb9.grown (grownBy_putObj' _ D1 _) hb9.size (fun k e => by cases e; omega)).grown (grownBy_putObj' _ D0 _) (by have := hb9.size; have h9 := (grownBy_putObj' (Z1.setCell ⟨w.heap.size + 1 + 1 + 1, 0, none⟩ (.bool true)) D1 (.deferred none)).size; omega) (fun k e => by cases e; omega)
  · have e2 : (60 : Int) < (M.length : Int) := by omega
    have e2' : 60 < M.length := by omega
    have hr2 := (HB2.out.block _ (lt_of_block HXR.out)).trans HXR.out
    have CA : Hid (Calls Try.prog 10 #[] w2 (AnsP w2 (.bool true))) := awake_any w2
    go_wp2_with (first | (go_at_call 10; refine CA.out.mono ?_))
    rintro e w3 ⟨rfl, hb3⟩
    have hr3 := (hb3.block _ (lt_of_block hr2)).trans hr2
    have r0 := cell_of0 hr3
    have r9 : w3.frozen? ⟨w.heap.size + 1 + 1 + 1, 0, none⟩ = false := by simp [World.frozen?, hr3]
    have HR3 := hid hr3
    have HB3 := hid hb3
    clear hr2 hr3 hb3
    go_wp2_with fail
    have hsz := HSZ.out
    refine ⟨.bool true, results_bool rfl _ _ (w.heap.size + 1 + 1 + 1) true rfl (cell_of0 (Boxed.set (.bool true) HR3.out)), rfl, ?_⟩
    exact (HBZ.out.trans ((HB2.out.trans (HB3.out.mono HB2.out.size)).mono HBZ.out.size)).setCell (by show w.heap.size ≤ w.heap.size + 1 + 1 + 1; omega) _

set_option maxRecDepth 100000 in
theorem walk {H : Type} {enc : TypeId × Value → H} {base : Nat} {d0 d1 d3 : DataW H} {p0 p1 p3 : List MemPlace} (v0 v1 : Value) (a2 : Int) (v3 : Value) (w : World)
    (k0 : Value.okWide Try.prog w .any base 29 v0) (t0 : DataW.Trod enc Try.prog w 0 (fun _ => true) true 29 v0 d0 p0)
    (k1 : Value.okWide Try.prog w .any base 25 v1) (t1 : DataW.Trod enc Try.prog w 0 (fun _ => true) true 25 v1 d1 p1) (w2 : (Lit.int .i64 a2).wf = true)
    (k3 : Value.okWide Try.prog w .any base 31 v3) (t3 : DataW.Trod enc Try.prog w 0 (fun _ => true) true 31 v3 d3 p3) :
    Calls Try.prog 5 #[v0, v1, .int .i64 a2, v3] w fun e w' => e = .returned (.bool true) ∧ Below w.heap.size w w' := by
  obtain ⟨a, len, cap, rfl⟩ := WideShapes.okWide_slice Try.underlying29 k0
  obtain ⟨M, rfl, hM⟩ := pairs_open t0
  obtain ⟨fv, tv, f, t, rfl, hf, ht⟩ := span_open k1 t1
  obtain ⟨m, rfl, hm⟩ := pair_open k3 t3
  exact walk0 _ fv tv M f t a2 m w hM hf ht w2 hm
end pagesStop
end Go.Proofs.Ytcgnghkjkdkmmaa
