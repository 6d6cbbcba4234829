/-
  THE LAW PagesNil: its walk.
-/
import Derived.Test.YtcgnghkjkdkmmaaGtw
import Derived.Test.YtcgnghkjkdkmmaaGlaw
set_option linter.unusedVariables false
namespace Go.Proofs.Ytcgnghkjkdkmmaa
open Go.RowKit Go.Shelf
attribute [local go_sem] Oper.semAt_some

theorem own_lenF {W : World} {b : Nat} {e : TypeId} {s n : Nat} {v : Value} {xs : List Value} (h : W.ownsRow b e s v n xs) : ∃ ao c, v = .slice ao n c := by
  rcases h.2 with ⟨rfl, rfl⟩ | ⟨g, cap, cur, rfl, _⟩
  · exact ⟨_, _, rfl⟩
  · exact ⟨_, _, rfl⟩

theorem below_own {β : Type} {B n : Nat} {w1 : World} (hn : n ≤ w1.heap.size) (hB : n ≤ B) (p : β → Prop) : OwnFrom B (fun (s : β) W => p s ∧ Below n w1 W) := fun s X Y row hs hg hr =>
  ⟨hs.1, hs.2.grown hg (Nat.le_trans hn hs.2.size) (fun k e => Nat.le_trans hB (hr k e).1)⟩

/-- A result that lies in a cell: a bool's. -/
theorem results_flag {fn : Func} {p : Tmp} (h : fn.results = #[.cell p 4]) (tmps : Array Value) (w : World) (g : Nat) (v : Bool) (hp : tmps.getD p undef = .pointer (some ⟨g, 0, none⟩)) (hg : w.cell? ⟨g, 0, none⟩ = some (.bool v)) :
    (results fn tmps).run Try.prog w = .ok (.bool v) w := by
  have hp' : tmps[p]?.getD undef = .pointer (some ⟨g, 0, none⟩) := by simpa using hp
  simp [results, h, hp', go_sem, hg]

namespace pagesNil
set_option maxHeartbeats 16000000 in
set_option maxRecDepth 100000 in
theorem walk0 (m : Lp) (fv tv : Value) (f t : List UInt8) (w : World) (hm : RdP w m) (hf : Rd w fv f) (ht : Rd w tv t) :
    Calls Try.prog 6 #[pv m, .agg #[fv, tv]] w (AnsP w (.bool true)) := by
  have hff := hf
  have htt := ht
  obtain ⟨fa, fc, rfl, -⟩ := hff
  obtain ⟨ta, tc, rfl, -⟩ := htt
  have o1 := one_rd hm.1
  have o2 := one_rd hm.2
  have HM := hid hm
  have HF := hid hf
  have HT := hid ht
  have hb3 : Below w.heap.size w (((w.alloc (.cells #[.slice m.ka m.key.length m.kc, .slice m.va m.val.length m.vc, .int .i64 m.ver] 31)).alloc (.cells #[.slice fa f.length fc, .slice ta t.length tc] 25)).alloc (.cells #[.bool false] 4)) := (((Below.refl _ _).alloc (Nat.le_refl _) _).alloc (by simp) _).alloc (by simp; omega) _
  have hx0 : (((w.alloc (.cells #[.slice m.ka m.key.length m.kc, .slice m.va m.val.length m.vc, .int .i64 m.ver] 31)).alloc (.cells #[.slice fa f.length fc, .slice ta t.length tc] 25)).alloc (.cells #[.bool false] 4)).heap[w.heap.size]? = some (.cells #[.slice m.ka m.key.length m.kc, .slice m.va m.val.length m.vc, .int .i64 m.ver] 31 (0, 0)) := (Below.heap_alloc _ _ _ (by simp; omega)).trans ((Below.heap_alloc _ _ _ (by simp)).trans (heap_alloc_new _ _))
  have hx1 : (((w.alloc (.cells #[.slice m.ka m.key.length m.kc, .slice m.va m.val.length m.vc, .int .i64 m.ver] 31)).alloc (.cells #[.slice fa f.length fc, .slice ta t.length tc] 25)).alloc (.cells #[.bool false] 4)).heap[w.heap.size + 1]? = some (.cells #[.slice fa f.length fc, .slice ta t.length tc] 25 (0, 0)) := (Below.heap_alloc _ _ _ (by simp)).trans (heap_alloc2_new _ _ _)
  have hx2 : (((w.alloc (.cells #[.slice m.ka m.key.length m.kc, .slice m.va m.val.length m.vc, .int .i64 m.ver] 31)).alloc (.cells #[.slice fa f.length fc, .slice ta t.length tc] 25)).alloc (.cells #[.bool false] 4)).heap[w.heap.size + 1 + 1]? = some (.cells #[.bool false] 4 (0, 0)) := by
    have := heap_alloc_new ((w.alloc (.cells #[.slice m.ka m.key.length m.kc, .slice m.va m.val.length m.vc, .int .i64 m.ver] 31)).alloc (.cells #[.slice fa f.length fc, .slice ta t.length tc] 25)) (.cells #[.bool false] 4)
    simpa using this
  clear hm hf ht
  unfold pv
  refine calls_marks Try.func6 rfl ?_
  simp only [Try.ntmps6, List.size_toArray, List.length_cons, List.length_nil, Nat.reduceAdd, Nat.reduceSub, Array.replicate_succ, Array.replicate_zero, List.push_toArray, List.append_toArray, List.nil_append, List.cons_append]
  go_upto_region 2 with fail
  generalize (((w.alloc (.cells #[.slice m.ka m.key.length m.kc, .slice m.va m.val.length m.vc, .int .i64 m.ver] 31)).alloc (.cells #[.slice fa f.length fc, .slice ta t.length tc] 25)).alloc (.cells #[.bool false] 4)) = w3 at *
  have HB3 := hid hb3
  have HX0 := hid hx0
  have HX1 := hid hx1
  have HX2 := hid hx2
  obtain ⟨p0, p1, p2, -⟩ := three_cells hx0
  clear hb3 hx0 hx1 hx2
  have CG : Hid (∀ W, Below w3.heap.size w3 W → Calls Try.prog 24 #[.pointer none, .slice m.ka m.key.length m.kc] W (GetA [] m.key W)) := fun W h =>
    get_any _ _ [] m.key W (.inl ⟨rfl, rfl⟩) fit_nil (HM.out.1.old (HB3.out.trans (h.mono HB3.out.size))) (fun g hg => by cases hg)
  go_wp2_with (first | (go_at_call 24; refine (CG.out _ (Below.refl _ _)).mono ?_))
  rintro e w4 (⟨x, x', hx, -⟩ | ⟨-, rfl, hb4⟩)
  · cases hx
  have HB4 : Hid (Below w3.heap.size w3 (w4.alloc (.cells #[.slice none 0 0, .slice none 0 0, .int .i64 0] 31))) := hb4.alloc hb4.size _
  have hx6 : (w4.alloc (.cells #[.slice none 0 0, .slice none 0 0, .int .i64 0] 31)).heap[w4.heap.size]? = some (.cells #[.slice none 0 0, .slice none 0 0, .int .i64 0] 31 (0, 0)) := heap_alloc_new _ _
  have hx15 : (w4.alloc (.cells #[.slice none 0 0, .slice none 0 0, .int .i64 0] 31)).heap[w.heap.size + 1]? = some (.cells #[.slice fa f.length fc, .slice ta t.length tc] 25 (0, 0)) := (HB4.out.block _ (lt_of_block HX1.out)).trans HX1.out
  have hs4 : w4.heap.size < (w4.alloc (.cells #[.slice none 0 0, .slice none 0 0, .int .i64 0] 31)).heap.size := by simp
  clear hb4
  go_upto_region 3 with fail
  generalize w4.alloc (.cells #[.slice none 0 0, .slice none 0 0, .int .i64 0] 31) = w5 at *
  have HX6 := hid hx6
  obtain ⟨s0, s1, -, -⟩ := two_cells hx15
  clear hx6 hx15
  have CS : Hid (Calls Try.prog 27 #[.pointer none, .agg #[.slice fa f.length fc, .slice ta t.length tc], .bool true] w5 (ScanA [] f t true w5)) :=
    scan_any _ _ _ [] f t true w5 (.inl ⟨rfl, rfl⟩) (HF.out.old (HB3.out.trans (HB4.out.mono HB3.out.size))) (HT.out.old (HB3.out.trans (HB4.out.mono HB3.out.size))) fit_nil.ord (fun g hg => by cases hg) (by simp)
  go_wp2_with (first | (go_at_call 27; refine CS.out.mono ?_))
  rintro e w6 ⟨p, i, p', i', b, ao, H, hn, c, rfl, hp, rfl, hH, hpg, hao, hfr, hbox, hbb, hbel⟩
  have hHf : (mls H).flatten = [] := by
    rw [span_flat hp hH]; rfl
  have hHl : H.length ≤ 2 := by
    have h1 := betw_len (mls []) p i p' i'
    rw [← hH, mls_len, mls_len] at h1
    simpa using h1
  have hHe : ∀ g ∈ H, g.M = [] := fun g hg => List.eq_nil_of_length_eq_zero (by have := len_mem (mls_mem hg); rw [hHf] at this; simpa using this)
  have HB6 : Hid (Below w3.heap.size w3 w6) := HB4.out.trans (hbel.mono HB4.out.size)
  have HX6b : Hid (w6.heap[w4.heap.size]? = some (.cells #[.slice none 0 0, .slice none 0 0, .int .i64 0] 31 (0, 0))) := (hbel.block _ hs4).trans HX6.out
  clear hp hH hao hfr hbb hbel
  simp only [if_true]
  have hnf : ∀ W, (binOp BinOp.eql 53 (.func (.func 51) #[] #[.pointer (some ⟨b, 0, none⟩)]) .nilFunc).run Try.prog W = .ok (.bool false) W := fun _ => by kernel_rfl
  go_wp2_with (first | (go_at_call 10; refine (awake_any w6).mono ?_; rintro e w7 ⟨rfl, hb7⟩))
  have HB7 : Hid (Below w3.heap.size w3 w7) := HB6.out.trans (hb7.mono HB6.out.size)
  have HX7 : Hid (w7.heap[w4.heap.size]? = some (.cells #[.slice none 0 0, .slice none 0 0, .int .i64 0] 31 (0, 0))) := (hb7.block _ (lt_of_block HX6b.out)).trans HX6b.out
  have HPG : Hid (Pgs w7 (.slice ao H.length c) H) := hpg.old hb7
  have HBX : Hid (w7.heap[b]? = some (.cells #[.slice ao H.length c] 63 (0, 0))) := (hb7.block _ (lt_of_block hbox)).trans hbox
  have HSQ := hid (falling_seq (9 - 1) (by omega) b w7.heap.size w7.heap.size ao c H w7 (fun g hg => by rw [hHe g hg]; simp) (by omega) (fun g hg m hm => by rw [hHe g hg] at hm; cases hm) (Nat.le_refl _) (fun W hk => by have hk2 := hk.keep.below (Nat.le_refl _) (Nat.le_refl _); exact ⟨cell_of0 ((hk2.block _ (lt_of_block HBX.out)).trans HBX.out), HPG.out.old hk2⟩))
  clear hpg hbox hb7
  refine wpIn_wide.1 (range_outer (n := 9) rfl (by omega) (gf := 51) (lb := #[.pointer (some ⟨b, 0, none⟩)]) ?hg trivial (enters_of Try.func51 (by kernel_rfl) rfl)
    HSQ.out (fun h k => h.trans k) (fun W W' l hl ht => KpF.turn ht hl) (Below.refl _ _) (fun _ => rfl)
    (fun pre W => pre = [] ∧ Below w7.heap.size w7 W) (fun _ _ _ => False) (below_own (Nat.le_refl _) (Nat.le_refl _) _) (fun c pre W W' row hs _ _ => hs)
    ⟨rfl, Below.refl _ _⟩
    ?round ?done (fun D c pre W _ _ h _ => h.elim))
  case hg => rfl
  case round =>
    rintro l pre x W hl hr ⟨rfl, -⟩ hx
    obtain ⟨_, q, hq, _⟩ := hx
    rw [hHf] at hq
    cases hq
  case done =>
    rintro D xs W hD - ⟨-, hbW⟩ hK
    have HBW : Hid (Below w3.heap.size w3 W) := HB7.out.trans (hbW.mono HB7.out.size)
    have HK := hid hK
    have HXW : Hid (W.heap[w4.heap.size]? = some (.cells #[.slice none 0 0, .slice none 0 0, .int .i64 0] 31 (0, 0))) := (hbW.block _ (lt_of_block HX7.out)).trans HX7.out
    clear hbW hK
    have hX : ∀ Z, Below W.heap.size W Z → (Z.cell? ⟨w.heap.size, 0, none⟩ = some (.slice m.ka m.key.length m.kc) ∧ Z.cell? ⟨w.heap.size, 1, none⟩ = some (.slice m.va m.val.length m.vc) ∧ Z.cell? ⟨w.heap.size, 2, none⟩ = some (.int .i64 m.ver) ∧ Z.cell? ⟨w.heap.size + 1, 0, none⟩ = some (.slice fa f.length fc) ∧ Z.cell? ⟨w.heap.size + 1, 1, none⟩ = some (.slice ta t.length tc) ∧
        Z.cell? ⟨w4.heap.size, 0, none⟩ = some (.slice none 0 0) ∧ Z.cell? ⟨w4.heap.size, 1, none⟩ = some (.slice none 0 0) ∧ Z.cell? ⟨w4.heap.size, 2, none⟩ = some (.int .i64 0) ∧ RdP Z m ∧ Rd Z (.slice fa f.length fc) f ∧ Rd Z (.slice ta t.length tc) t) := fun Z hZ => by
      have hZ3 : Below w3.heap.size w3 Z := HBW.out.trans (hZ.mono HBW.out.size)
      obtain ⟨a1, a2, a3, -⟩ := three_cells ((hZ3.block _ (lt_of_block HX0.out)).trans HX0.out)
      obtain ⟨b1, b2, -⟩ := two_cells ((hZ3.block _ (lt_of_block HX1.out)).trans HX1.out)
      obtain ⟨c1, c2, c3, -⟩ := three_cells ((hZ.block _ (lt_of_block HXW.out)).trans HXW.out)
      have hZw : Below w.heap.size w Z := HB3.out.trans (hZ3.mono HB3.out.size)
      exact ⟨a1, a2, a3, b1, b2, c1, c2, c3, HM.out.old hZw, HF.out.old hZw, HT.out.old hZw⟩
    have HX := hid hX
    clear hX
    obtain ⟨a1, a2, a3, b1, b2, c1, c2, c3, r1, r2, r3⟩ := HX.out W (Below.refl _ _)
    have R1 := hid r1
    clear r1 r2 r3
    go_wp2_with (first | (go_at_call 20; refine (put_no none m W R1.out (.inl rfl)).mono ?_))
    rintro e w8 ⟨rfl, hb8⟩
    have HB8 := hid hb8
    clear a1 a2 a3 b1 b2 c1 c2 c3 hb8
    obtain ⟨a1, a2, a3, b1, b2, c1, c2, c3, r1, r2, r3⟩ := HX.out w8 HB8.out
    have R2 := hid r1
    clear r1 r2 r3
    go_wp2_with (first | (go_at_call 12; refine (drop_any 0 0 (.pointer none) _ _ [] m.key w8 (.inl ⟨rfl, rfl⟩) fit_nil R2.out.1).mono ?_))
    rintro e w9 ⟨bb, hbb, rfl, hb9, -⟩
    have hbf : bb = false := by rw [hbb]; rfl
    subst hbf
    have HB9 : Hid (Below W.heap.size W w9) := HB8.out.trans ((hb9 rfl).mono HB8.out.size)
    clear a1 a2 a3 b1 b2 c1 c2 c3 hb9 hbb
    obtain ⟨a1, a2, a3, b1, b2, c1, c2, c3, -, -, -⟩ := HX.out w9 HB9.out
    have CP : Hid (Calls Try.prog 17 #[.agg #[.slice none 0 0, .slice none 0 0, .int .i64 0], .agg #[.slice none 0 0, .slice none 0 0, .int .i64 0]] w9 (AnsP w9 (.bool true))) :=
      pair_any ⟨none, 0, none, 0, [], [], 0⟩ ⟨none, 0, none, 0, [], [], 0⟩ w9 ⟨Rd.nil _, Rd.nil _⟩ ⟨Rd.nil _, Rd.nil _⟩
    go_wp2_with (first | (go_at_call 17; refine CP.out.mono ?_))
    rintro e w10 ⟨rfl, hb10⟩
    have HB10 : Hid (Below W.heap.size W w10) := HB9.out.trans (hb10.mono HB9.out.size)
    clear a1 a2 a3 b1 b2 c1 c2 c3 hb10
    obtain ⟨a1, a2, a3, b1, b2, c1, c2, c3, r1, r2, r3⟩ := HX.out w10 HB10.out
    have CT : Hid (Calls Try.prog 16 #[.pointer none, .agg #[.slice fa f.length fc, .slice ta t.length tc]] w10 (TakeA 0 0 (.pointer none) [] f t w10)) :=
      take_any 0 0 (.pointer none) _ _ _ [] f t w10 (.inl ⟨rfl, rfl⟩) fit_nil r2 r3 (by simp) (fun m hm => by simp [mls] at hm)
    clear r1 r2 r3
    go_wp2_with (first | (go_at_call 16; refine CT.out.mono ?_))
    rintro e w11 ⟨xa, xc, xs, rfl, hxs, -, -, -, hb11, -⟩
    have hxe : xs = [] := by simpa [mls] using hxs
    subst hxe
    have HB11 : Hid (Below W.heap.size W w11) := HB10.out.trans ((hb11 rfl).mono HB10.out.size)
    clear a1 a2 a3 b1 b2 c1 c2 c3 hb11 hxs
    have CL : Hid (Calls Try.prog 28 #[.pointer none] w11 (fun e w' => e = .returned (.int .i64 0) ∧ w' = w11)) := len_any (.pointer none) [] w11 (.inl ⟨rfl, rfl⟩) (by simp [total, mls]) (by simp)
    have CZ : Hid (Calls Try.prog 29 #[.pointer none] w11 (fun e w' => ∃ x, e = .returned x ∧ w'.ownsRow w11.heap.size 3 1 x 0 [] ∧ Below w11.heap.size w11 w')) := sizes_any (.pointer none) [] w11 (.inl ⟨rfl, rfl⟩) (by simp)
    go_wp2_with (first
      | (go_at_call 28; refine CL.out.mono ?_; rintro e w12 ⟨rfl, rfl⟩)
      | (go_at_call 29; refine CZ.out.mono ?_))
    rintro e w13 ⟨x, rfl, hx, hb13⟩
    obtain ⟨xo, xq, rfl⟩ := own_lenF hx
    have HB13 : Hid (Below W.heap.size W w13) := HB11.out.trans (hb13.mono HB11.out.size)
    have hres : w13.heap[w.heap.size + 1 + 1]? = some (.cells #[.bool false] 4 (0, 0)) := ((HBW.out.trans (HB13.out.mono HBW.out.size)).block _ (lt_of_block HX2.out)).trans HX2.out
    have z1 := cell_of0 hres
    have z2 : w13.frozen? ⟨w.heap.size + 1 + 1, 0, none⟩ = false := by simp [World.frozen?, hres]
    have hK13 : w13.heap[D]? = some (.deferred (some [])) := (HB13.out.block _ (lt_of_block HK.out)).trans HK.out
    have HK13 := hid hK13
    have HRES := hid hres
    clear hx hb13 hres hK13
    go_wp2_with (first | (go_at_call 18; refine (fork_nil w13).mono ?_; rintro e w14 ⟨rfl, rfl⟩))
    have hne : D ≠ w.heap.size + 1 + 1 := fun e => by
      have h1 := HK13.out
      rw [e, HRES.out] at h1
      cases h1
    have hKs : (w14.setCell ⟨w.heap.size + 1 + 1, 0, none⟩ (.bool true)).heap[D]? = some (.deferred (some [])) := (Below.heap_setCell w14 ⟨w.heap.size + 1 + 1, 0, none⟩ _ D hne).trans HK13.out
    have hrs : (w14.setCell ⟨w.heap.size + 1 + 1, 0, none⟩ (.bool true)).heap[w.heap.size + 1 + 1]? = some (.cells #[.bool true] 4 (0, 0)) := Boxed.set (.bool true) HRES.out
    have hsD : w.heap.size ≤ D := Nat.le_trans (Nat.le_trans HB3.out.size HB7.out.size) hD
    have hlD := lt_of_block hKs
    refine ⟨by simp, .inl ⟨_, _, rfl, run_takeDeferred hKs, ?_⟩⟩
    refine ⟨.bool true, results_flag rfl _ _ (w.heap.size + 1 + 1) true rfl (cell_of0 ((World.putObj_heap_other (Ne.symm hne)).trans hrs)), rfl, ?_⟩
    have hb1 : Below w.heap.size w (w14.setCell ⟨w.heap.size + 1 + 1, 0, none⟩ (.bool true)) := (HB3.out.trans ((HBW.out.trans (HB13.out.mono HBW.out.size)).mono HB3.out.size)).setCell (by show w.heap.size ≤ w.heap.size + 1 + 1; omega) _
    exact hb1.grown (grownBy_putObj' _ D _) hb1.size (fun k e => by cases e; exact hsD)

set_option maxRecDepth 100000 in
theorem walk {H : Type} {enc : TypeId × Value → H} {base : Nat} {d0 d1 : DataW H} {p0 p1 : List MemPlace} (v0 v1 : Value) (w : World)
    (k0 : Value.okWide Try.prog w .any base 31 v0) (t0 : DataW.Trod enc Try.prog w 0 (fun _ => true) true 31 v0 d0 p0)
    (k1 : Value.okWide Try.prog w .any base 25 v1) (t1 : DataW.Trod enc Try.prog w 0 (fun _ => true) true 25 v1 d1 p1) :
    Calls Try.prog 6 #[v0, v1] w fun e w' => e = .returned (.bool true) ∧ Below w.heap.size w w' := by
  obtain ⟨m, rfl, hm⟩ := pair_open k0 t0
  obtain ⟨fv, tv, f, t, rfl, hf, ht⟩ := span_open k1 t1
  exact walk0 m fv tv f t w hm hf ht
end pagesNil
end Go.Proofs.Ytcgnghkjkdkmmaa
