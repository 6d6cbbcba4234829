/-
  PAGES: the laws' helper told.
-/
import Derived.Sort.CutIn
import Derived.Test.YtcgnghkjkdkmmaaGtw
import Derived.Test.YtcgnghkjkdkmmaaGsm
set_option linter.unusedVariables false
namespace Go.Proofs.Ytcgnghkjkdkmmaa
open Go.RowKit Go.Shelf
attribute [local go_sem] Oper.semAt_some

theorem own_lenG {W : World} {b : Nat} {e : TypeId} {s n : Nat} {v : Value} {xs : List Value} (h : W.ownsRow b e s v n xs) : ∃ ao c, v = .slice ao n c := by
  rcases h.2 with ⟨rfl, rfl⟩ | ⟨g, cap, cur, rfl, _⟩
  · exact ⟨_, _, rfl⟩
  · exact ⟨_, _, rfl⟩

/-- A result that lies in a cell: a bool's. -/
theorem results_bool {fn : Func} {p : Tmp} (h : fn.results = #[.cell p 4]) (tmps : Array Value) (w : World) (g : Nat) (v : Bool) (hp : tmps.getD p undef = .pointer (some ⟨g, 0, none⟩)) (hg : w.cell? ⟨g, 0, none⟩ = some (.bool v)) :
    (results fn tmps).run Try.prog w = .ok (.bool v) w := by
  have hp' : tmps[p]?.getD undef = .pointer (some ⟨g, 0, none⟩) := by simpa using hp
  simp [results, h, hp', go_sem, hg]

theorem part_lg {A B : List Lp} {f t : List UInt8} (h : A.map lg = B.map lg) : (A.filter fun m => inSpan f t m.key).map lg = (B.filter fun m => inSpan f t m.key).map lg := by
  have e : ∀ L : List Lp, (L.filter fun m => inSpan f t m.key).map lg = (L.map lg).filter fun y => inSpan f t y.1 := fun L => by
    rw [List.filter_map]; rfl
  rw [e, e, h]

/-- What an iterator of Scan has: its pages, and what they hold. -/
theorem scan_has {G H : List Pg} {f t : List UInt8} {p i p' i' : Nat} (hF : Fit G) (hP : PartOk (mls G) f t p i p' i') (hH : mls H = betw (mls G) p i p' i') (hfr : ∀ h ∈ H, FromG G h) (hl : G.length ≤ 10000)
    (hb8 : ∀ m ∈ (mls G).flatten, m.key.length ≤ 140737488355328 ∧ m.val.length ≤ 140737488355328) :
    (∀ g ∈ H, g.M.length ≤ 1000000) ∧ H.length ≤ 1000000 ∧ (∀ g ∈ H, ∀ m ∈ g.M, m.key.length ≤ 140737488355328 ∧ m.val.length ≤ 140737488355328) ∧ (mls H).flatten.length ≤ 100000 := by
  have hfl := span_flat hP hH
  have hle := List.length_filter_le (fun m : Lp => inSpan f t m.key) (mls G).flatten
  have h0 := hF.len
  refine ⟨fun g hg => ?_, ?_, fun g hg m hm => hb8 m ((hfr g hg).2 m hm), by rw [hfl]; omega⟩
  · have h1 := len_mem (mls_mem hg)
    rw [hfl] at h1
    omega
  · have h1 := betw_len (mls G) p i p' i'
    rw [← hH, mls_len, mls_len] at h1
    omega

/-- What a loop over an iterator keeps: all but a number's box. -/
structure Cnt (bn n1 : Nat) (w1 : World) (n : Int) (W : World) : Prop where
  keep : KpX bn n1 w1 W
  box : Boxed W bn 3 (.int .i64 n)

theorem Cnt.grown {bn n1 : Nat} {w1 W W' : World} {n : Int} (h : Cnt bn n1 w1 n W) (hn : n1 ≤ W.heap.size) {row : Option Nat} (hg : W.grownBy W' row) (hr : ∀ r, row = some r → n1 ≤ r) (hb : bn < n1) : Cnt bn n1 w1 n W' :=
  ⟨h.keep.trans (KpX.grown hg hn (fun k e => .inl (hr k e))), h.box.kept hg (fun e => by have := hr bn e.symm; omega)⟩
theorem Cnt.old {bn n1 : Nat} {w1 W W' : World} {n : Int} (h : Cnt bn n1 w1 n W) (hn : n1 ≤ W.heap.size) (hb : Below W.heap.size W W') (hbn : bn < n1) : Cnt bn n1 w1 n W' := h.grown hn (row := none) (grown_below hb none) (fun r e => by cases e) hbn
theorem Cnt.set {bn n1 : Nat} {w1 W : World} {n : Int} (h : Cnt bn n1 w1 n W) (hn : n1 ≤ W.heap.size) (m : Int) : Cnt bn n1 w1 m (W.setCell ⟨bn, 0, none⟩ (.int .i64 m)) :=
  ⟨h.keep.trans (KpX.grown (grownBy_setCell' W bn _) hn (fun k e => by cases e; exact .inr rfl)), h.box.set _⟩
theorem Cnt.own {bn n1 B : Nat} {w1 : World} {β : Type} (c : β → Int) (hn : n1 ≤ w1.heap.size) (hB : n1 ≤ B) (hb : bn < n1) : OwnFrom B (fun s W => Cnt bn n1 w1 (c s) W) := fun s W W' row hs hg hr =>
  hs.grown (Nat.le_trans hn hs.keep.size) hg (fun r e => Nat.le_trans hB (hr r e).1) hb

theorem spoil_keeps {n : Nat} {W W' : World} {base : Nat} {v : Value} {l : List UInt8} (ho : W.ownsRow base 5 1 v l.length (l.map bv)) (hg : W.grownBy W' v.ownBlock) : KeepsFrom n W W' :=
  (KeepsOthers.of_grownBy hg (fun j o hj hk => by
    rcases ho.2 with ⟨rfl, _⟩ | ⟨g, cap, cur, rfl, _, hgb, _⟩
    · simp [Value.ownBlock] at hj
    · obtain rfl : g = j := by simpa [Value.ownBlock] using hj
      rw [hgb] at hk
      cases hk
      rfl)).from n

theorem flat_iv : ∀ G : List Pg, (G.map fun g => [iv g.M.length]).flatten = G.map fun g => iv g.M.length
  | [] => rfl
  | g :: l => by simp [flat_iv l]

theorem KpF.set {bl n0 : Nat} {W : World} {u : Value} (h : Boxed W bl 3 u) (hn : n0 ≤ W.heap.size) (v : Value) : KpF bl n0 W (W.setCell ⟨bl, 0, none⟩ v) :=
  ⟨KpX.grown (grownBy_setCell' W bl v) hn (fun k e => by cases e; exact .inr rfl), fun k c e fr h1 h2 _ _ _ => by
    refine (Below.heap_setCell W ⟨bl, 0, none⟩ v k (fun e9 => ?_)).trans h1
    subst e9
    rw [show W.heap[k]? = _ from h] at h1
    cases h1
    exact h2 rfl⟩

set_option maxHeartbeats 32000000 in
set_option maxRecDepth 100000 in
theorem told_any (pv0 lv fv tv : Value) (G : List Pg) (L : List Lp) (f t : List UInt8) (w : World) (hM : MapR w pv0 G) (hF : Fit G) (hL : Prs w lv L) (hlg : L.map lg = (mls G).flatten.map lg) (hf : Rd w fv f) (ht : Rd w tv t) (hl : G.length ≤ 10000)
    (hb8 : ∀ m ∈ (mls G).flatten, m.key.length ≤ 140737488355328 ∧ m.val.length ≤ 140737488355328) :
    Calls Try.prog 25 #[pv0, lv, .agg #[fv, tv]] w (AnsP w (.bool true)) := by
  have hff := hf
  have htt := ht
  obtain ⟨fa, fc, rfl, -⟩ := hff
  obtain ⟨ta, tc, rfl, -⟩ := htt
  obtain ⟨lo, lc, rfl, -⟩ := hL.form
  have hLl : L.length ≤ 100000 := by have := congrArg List.length hlg; simp only [List.length_map] at this; rw [this]; exact hF.len
  have HM := hid hM
  have HF := hid hF
  have HL := hid hL
  have HLG := hid hlg
  have HFR := hid hf
  have HTR := hid ht
  have HB8 := hid hb8
  have hbA : Below w.heap.size w ((w.alloc (.cells #[.slice fa f.length fc, .slice ta t.length tc] 25)).alloc (.cells #[.bool false] 4)) := ((Below.refl _ _).alloc (Nat.le_refl _) _).alloc (by simp) _
  have hsp0 : ((w.alloc (.cells #[.slice fa f.length fc, .slice ta t.length tc] 25)).alloc (.cells #[.bool false] 4)).heap[w.heap.size]? = some (.cells #[.slice fa f.length fc, .slice ta t.length tc] 25 (0, 0)) := (Below.heap_alloc _ _ _ (by simp)).trans (heap_alloc_new _ _)
  have hrs0 : ((w.alloc (.cells #[.slice fa f.length fc, .slice ta t.length tc] 25)).alloc (.cells #[.bool false] 4)).heap[w.heap.size + 1]? = some (.cells #[.bool false] 4 (0, 0)) := heap_alloc2_new _ _ _
  have CPT : Hid (Calls Try.prog 14 #[.slice lo L.length lc, .agg #[.slice fa f.length fc, .slice ta t.length tc]] ((w.alloc (.cells #[.slice fa f.length fc, .slice ta t.length tc] 25)).alloc (.cells #[.bool false] 4)) (MadeP ((w.alloc (.cells #[.slice fa f.length fc, .slice ta t.length tc] 25)).alloc (.cells #[.bool false] 4)) (L.filter fun m => inSpan f t m.key))) :=
    part_any _ _ _ L f t _ (hL.old hbA) (hf.old hbA) (ht.old hbA) hLl
  have hsA : ((w.alloc (.cells #[.slice fa f.length fc, .slice ta t.length tc] 25)).alloc (.cells #[.bool false] 4)).heap.size = w.heap.size + 2 := by simp
  clear hM hF hL hlg hf ht hb8
  refine calls_marks Try.func25 rfl ?_
  simp only [Try.ntmps25, List.size_toArray, List.length_cons, List.length_nil, Nat.reduceAdd, Nat.reduceSub, Array.replicate_succ, Array.replicate_zero, List.push_toArray, List.append_toArray, List.nil_append, List.cons_append]
  go_wp2_with (first | (go_at_call 14; refine CPT.out.mono ?_))
  generalize ((w.alloc (.cells #[.slice fa f.length fc, .slice ta t.length tc] 25)).alloc (.cells #[.bool false] 4)) = wA at *
  rintro e wp ⟨x, rfl, hx, hbp⟩
  obtain ⟨xa, xc, rfl⟩ := own_lenG hx
  obtain ⟨PL, hPL⟩ : ∃ PL, PL = L.filter fun m => inSpan f t m.key := ⟨_, rfl⟩
  rw [← hPL] at hx ⊢
  have HBP : Hid (Below w.heap.size w wp) := hbA.trans (hbp.mono hbA.size)
  have hPLlg : PL.map lg = ((mls G).flatten.filter fun m => inSpan f t m.key).map lg := by rw [hPL]; exact part_lg HLG.out
  have hPLl : PL.length ≤ 100000 := by rw [hPL]; exact Nat.le_trans (List.length_filter_le _ _) hLl
  have hrp : RdG wp ⟨xa, xc, PL⟩ := Prs.own hx (fun m hm => ((HL.out.2 m (by rw [hPL] at hm; exact (List.mem_filter.1 hm).1)).old HBP.out))
  have HPLG := hid hPLlg
  have HRP := hid hrp
  have hsp : wp.heap[w.heap.size]? = some (.cells #[.slice fa f.length fc, .slice ta t.length tc] 25 (0, 0)) := (hbp.block _ (by omega)).trans hsp0
  have HSP := hid hsp
  have HRS : Hid (wp.heap[w.heap.size + 1]? = some (.cells #[.bool false] 4 (0, 0))) := (hbp.block _ (by omega)).trans hrs0
  have hswp : w.heap.size + 2 ≤ wp.heap.size := by have := hbp.size; omega
  obtain ⟨s0, s1, -, -⟩ := two_cells hsp
  clear hx hPL hPLlg hrp hsp hsp0 hrs0 hbp hbA CPT
  have hbB : Below wp.heap.size wp ((wp.alloc (.cells #[.slice xa PL.length xc] 29)).alloc (.cells #[.int .i64 0] 3)) := ((Below.refl _ _).alloc (Nat.le_refl _) _).alloc (by simp) _
  have hpb : ((wp.alloc (.cells #[.slice xa PL.length xc] 29)).alloc (.cells #[.int .i64 0] 3)).heap[wp.heap.size]? = some (.cells #[.slice xa PL.length xc] 29 (0, 0)) := (Below.heap_alloc _ _ _ (by simp)).trans (heap_alloc_new _ _)
  have hnb : ((wp.alloc (.cells #[.slice xa PL.length xc] 29)).alloc (.cells #[.int .i64 0] 3)).heap[wp.heap.size + 1]? = some (.cells #[.int .i64 0] 3 (0, 0)) := heap_alloc2_new _ _ _
  have hs4 : ((wp.alloc (.cells #[.slice xa PL.length xc] 29)).alloc (.cells #[.int .i64 0] 3)).heap.size = wp.heap.size + 2 := by simp
  have hb4 : Below w.heap.size w ((wp.alloc (.cells #[.slice xa PL.length xc] 29)).alloc (.cells #[.int .i64 0] 3)) := HBP.out.trans (hbB.mono HBP.out.size)
  have CS : Hid (Calls Try.prog 27 #[pv0, .agg #[.slice fa f.length fc, .slice ta t.length tc], .bool false] ((wp.alloc (.cells #[.slice xa PL.length xc] 29)).alloc (.cells #[.int .i64 0] 3)) (ScanA G f t false ((wp.alloc (.cells #[.slice xa PL.length xc] 29)).alloc (.cells #[.int .i64 0] 3)))) :=
    scan_any pv0 _ _ G f t false _ (HM.out.old hb4) (HFR.out.old hb4) (HTR.out.old hb4) HF.out.ord (fun g hg => by have := (HF.out.ok _ (mls_mem hg)).2.1; omega) hl
  go_upto_region 3 with fail
  generalize ((wp.alloc (.cells #[.slice xa PL.length xc] 29)).alloc (.cells #[.int .i64 0] 3)) = w4 at *
  have HSP4 : Hid (w4.heap[w.heap.size]? = some (.cells #[.slice fa f.length fc, .slice ta t.length tc] 25 (0, 0))) := (hbB.block _ (by omega)).trans HSP.out
  obtain ⟨q0, q1, -, -⟩ := two_cells HSP4.out
  go_wp2_with (first | (go_at_call 27; refine CS.out.mono ?_))
  rintro e w5 ⟨p, i, p', i', b, ao, H, hn, c, rfl, hp, rfl, hH, hpg, hao, hfr, hbox, hbb, hbel⟩
  obtain ⟨hH8, hHl, hHb, hHm⟩ := scan_has HF.out hp hH hfr hl HB8.out
  have hfl := span_flat hp hH
  have hb1 : b < w5.heap.size := lt_of_block hbox
  have hsz5 : w4.heap.size ≤ w5.heap.size := hbel.size
  have hKH : Hid (∀ W, KpX (wp.heap.size + 1) w5.heap.size w5 W → W.cell? ⟨b, 0, none⟩ = some (.slice ao H.length c) ∧ Pgs W (.slice ao H.length c) H) := fun W h => by
    refine ⟨cell_of0 ((h.block b hb1 (by omega)).trans hbox), hpg.1.keep h.keep (fun _ k hk => ?_), fun g hg => (hpg.2 g hg).keep h.keep (fromG_off (w := w) HF.out (fun g hg => ?_) (fun k hk => by omega) (hfr g hg))⟩
    · obtain ⟨a, e1, rfl⟩ := blk_of hk
      have := hao a e1
      omega
    · rcases HM.out with ⟨_, rfl⟩ | ⟨base, mb, v, _, h⟩
      · cases hg
      · exact h.each g hg
  have HSQ := hid (rising_seq (9 - 1) (by omega) b w5.heap.size ao c H w5 hH8 hHl hHb (KpX (wp.heap.size + 1) w5.heap.size) (KpX.refl _ _) (fun h k => h.trans k) (fun h => h.size) (fun h k => KpX.of k h) (Nat.le_refl _) hKH.out)
  have HB5 : Hid (Below w.heap.size w w5) := hb4.trans (hbel.mono hb4.size)
  have hoffN : OffG (fun k => k = wp.heap.size + 1) ⟨xa, xc, PL⟩ := HRP.out.offnew (fun k hk => by omega)
  have HB5p : Hid (Below wp.heap.size wp w5) := hbB.trans (hbel.mono hbB.size)
  have HRP5 : Hid (∀ W, KpX (wp.heap.size + 1) w5.heap.size w5 W → RdG W ⟨xa, xc, PL⟩) := fun W h => (HRP.out.old HB5p.out).keep h.keep hoffN
  have HPB5 : Hid (w5.heap[wp.heap.size]? = some (.cells #[.slice xa PL.length xc] 29 (0, 0))) := (hbel.block _ (by omega)).trans hpb
  have hn5 : Boxed w5 (wp.heap.size + 1) 3 (.int .i64 0) := (hbel.block _ (by omega)).trans hnb
  have HFL := hid hfl
  have HPH : Hid (PL.map lg = (mls H).flatten.map lg) := by show _ = _; rw [hfl]; exact HPLG.out
  clear hp hH hpg hao hfr hbox hbb hbel hfl hpb hnb hbB hoffN hKH hH8 hHl hHb CS q0 q1 s0 s1
  simp only [Bool.false_eq_true, if_false]
  go_wp2_with fail
  refine wpIn_wide.1 (range_outer (n := 9) rfl (by omega) (gf := 54) (lb := #[.pointer (some ⟨b, 0, none⟩)]) ?hg trivial (enters_of Try.func54 (by kernel_rfl) rfl)
    HSQ.out (fun h k => h.trans k) (fun W W' l hl ht => KpX.turn ht hl) (Below.refl _ _) (fun _ => rfl)
    (fun pre W => Cnt (wp.heap.size + 1) w5.heap.size w5 (pre.length : Int) W) (fun _ _ _ => False) (Cnt.own (fun pre : List Lp => (pre.length : Int)) (Nat.le_refl _) (Nat.le_refl _) (by omega)) (fun c pre W W' row hs _ _ => hs)
    ⟨KpX.refl _ _ _, hn5⟩
    ?round ?done (fun D c pre W _ _ h _ => h.elim))
  case hg => rfl
  case round =>
    intro l pre m W hl1 hr hcnt hx
    obtain ⟨hmi, q, hq, hal⟩ := hx
    have hlen : pre.length < PL.length := by
      have h1 := (List.getElem?_eq_some_iff.1 hq).1
      have h2 := congrArg List.length HPH.out
      simp only [List.length_map] at h2
      omega
    have hv := List.getElem?_eq_getElem hlen
    generalize PL[pre.length] = a at *
    have hsame : sameP m a = true := lg_same (by rw [alike_lg hal]; exact (lg_at HPH.out hv hq).symm)
    have hq8 := HB8.out q (by have h3 := List.mem_of_getElem? hq; rw [HFL.out] at h3; exact (List.mem_filter.1 h3).1)
    have hm8 : m.key.length ≤ 140737488355328 ∧ m.val.length ≤ 140737488355328 := by rw [hal.1, hal.2.1]; exact hq8
    have o1 := one_rd hmi.rd.1
    have o2 := one_rd hmi.rd.2
    have HMI := hid hmi
    have HCN := hid hcnt
    have HV := hid hv
    have hsW : w5.heap.size ≤ W.heap.size := hcnt.keep.size
    clear hmi hcnt hr hq hal hv hq8
    unfold pv
    gi_wp2
    have hbA : Below W.heap.size W (W.alloc (.cells #[.slice m.ka m.key.length m.kc, .slice m.va m.val.length m.vc, .int .i64 m.ver] 31)) := (Below.refl _ _).alloc (Nat.le_refl _) _
    have hxA : (W.alloc (.cells #[.slice m.ka m.key.length m.kc, .slice m.va m.val.length m.vc, .int .i64 m.ver] 31)).heap[W.heap.size]? = some (.cells #[.slice m.ka m.key.length m.kc, .slice m.va m.val.length m.vc, .int .i64 m.ver] 31 (0, 0)) := heap_alloc_new _ _
    refine ⟨kf_below hbA, KpX.of hbA hsW, fun Wb hT => ?_⟩
    generalize W.alloc (.cells #[.slice m.ka m.key.length m.kc, .slice m.va m.val.length m.vc, .int .i64 m.ver] 31) = WA at *
    have hsA : w5.heap.size ≤ WA.heap.size := Nat.le_trans hsW hbA.size
    have HCb : Hid (Cnt (wp.heap.size + 1) w5.heap.size w5 (pre.length : Int) Wb) := (HCN.out.old hsW hbA (by omega)).grown hsA hT.grown (fun r e => by cases e; exact hl1) (by omega)
    have hmA : Mine w5.heap.size WA m := HMI.out.old hbA
    have HMb : Hid (Mine w5.heap.size Wb m) := by
      obtain ⟨o, ho, hc⟩ := hT.old
      exact hmA.kept hT.grown (own_ne_block hmA.k ho (fun cur e => by rw [e] at hc; cases hc)) (own_ne_block hmA.v ho (fun cur e => by rw [e] at hc; cases hc))
    have hxB : Wb.heap[W.heap.size]? = some (.cells #[.slice m.ka m.key.length m.kc, .slice m.va m.val.length m.vc, .int .i64 m.ver] 31 (0, 0)) := heap_kept hT.grown hxA (fun e9 => by
      cases e9
      obtain ⟨o, ho, hc⟩ := hT.old
      rw [hxA] at ho
      cases ho
      cases hc)
    have HXB := hid hxB
    have hsb : w5.heap.size ≤ Wb.heap.size := HCb.out.keep.size
    have hkl : ∀ k, (Value.slice m.ka m.key.length m.kc).ownBlock = some k → w5.heap.size ≤ k ∧ k < W.heap.size := fun k e => HMI.out.k.lt k e
    have hvl : ∀ k, (Value.slice m.va m.val.length m.vc).ownBlock = some k → w5.heap.size ≤ k ∧ k < W.heap.size := fun k e => HMI.out.v.lt k e
    have HKL := hid hkl
    have HVL := hid hvl
    obtain ⟨p0, p1, p2, -, -, -⟩ := three_cells hxB
    have hprb := HRP5.out Wb HCb.out.keep
    obtain ⟨b2, off2, rfl, e1, e2, e3⟩ := Prs.get (show Prs Wb (.slice xa PL.length xc) PL from hprb) HV.out
    have hra := hprb.2 a (List.mem_of_getElem? HV.out)
    have o3 := one_rd hra.1
    have o4 := one_rd hra.2
    have n0 := HCb.out.box.cell
    have n9 := HCb.out.box.frozen
    have t0 := cell_of0 ((HCb.out.keep.block wp.heap.size (by omega) (by omega)).trans HPB5.out)
    have CPR : Hid (∀ nn, CallsIn (Fence.wide.inRound l) nn Try.prog 17 #[.agg #[.slice m.ka m.key.length m.kc, .slice m.va m.val.length m.vc, .int .i64 m.ver], .agg #[.slice a.ka a.key.length a.kc, .slice a.va a.val.length a.vc, .int .i64 a.ver]] Wb.drew (AnsP Wb.drew (.bool true))) := fun nn => by
      rw [← hsame]
      exact CallsIn.inRound l (callsIn_wide.2 (pair_any m a Wb.drew HMb.out.rd hra))
    have hnlt : ¬ ((PL.length : Int) ≤ (pre.length : Int)) := by omega
    have hnld : decide (PL.length ≤ pre.length) = false := decide_eq_false (by omega)
    have hw1 : IntKind.i64.wrap ((pre.length : Int) + 1) = (pre.length : Int) + 1 := by rw [IntKind.wrap_i64]; omega
    clear hT hxA hbA hmA hxB hprb hra hsame hkl hvl
    gi_upto_region 5 with fail
    gi_cut [33] from 21 (fun c wx => c = .bool false ∧ Hid (Below Wb.heap.size Wb wx))
    case first =>
      gi_region_with (first | (refine ⟨trivial, ?_⟩; gi_at_call 17; refine (CPR.out _).mono ?_; rintro e W6 ⟨rfl, hb6⟩))
      all_goals (gi_wp2; gi_meet; exact ⟨by simp only [hnld], (Below.refl _ _).drew.trans hb6⟩)
    case rest =>
      obtain ⟨rfl, HB6⟩ := hcut
      generalize wc = W6 at *
      have hC6 : Cnt (wp.heap.size + 1) w5.heap.size w5 (pre.length : Int) W6 := HCb.out.old hsb HB6.out (by omega)
      have hs6 : w5.heap.size ≤ W6.heap.size := hC6.keep.size
      have hx6 : W6.heap[W.heap.size]? = some (.cells #[.slice m.ka m.key.length m.kc, .slice m.va m.val.length m.vc, .int .i64 m.ver] 31 (0, 0)) := (HB6.out.block _ (lt_of_block HXB.out)).trans HXB.out
      have hC7 := hC6.set hs6 ((pre.length : Int) + 1)
      have hM7 : Mine w5.heap.size (W6.setCell ⟨wp.heap.size + 1, 0, none⟩ (.int .i64 ((pre.length : Int) + 1))) m := (HMb.out.old HB6.out).kept (grownBy_setCell' W6 (wp.heap.size + 1) _) (.inr (fun e => by have := (HKL.out _ e).1; omega)) (.inr (fun e => by have := (HVL.out _ e).1; omega))
      have hx7 : (W6.setCell ⟨wp.heap.size + 1, 0, none⟩ (.int .i64 ((pre.length : Int) + 1))).heap[W.heap.size]? = some (.cells #[.slice m.ka m.key.length m.kc, .slice m.va m.val.length m.vc, .int .i64 m.ver] 31 (0, 0)) := (Below.heap_setCell W6 ⟨wp.heap.size + 1, 0, none⟩ _ W.heap.size (by show W.heap.size ≠ wp.heap.size + 1; omega)).trans hx6
      have hk7 : KeepsFrom w5.heap.size Wb (W6.setCell ⟨wp.heap.size + 1, 0, none⟩ (.int .i64 ((pre.length : Int) + 1))) := (kf_below HB6.out).trans ((KeepsOthers.setCell W6 ⟨wp.heap.size + 1, 0, none⟩ (.int .i64 ((pre.length : Int) + 1))).from w5.heap.size)
      have hp7 : KpX (wp.heap.size + 1) w5.heap.size Wb (W6.setCell ⟨wp.heap.size + 1, 0, none⟩ (.int .i64 ((pre.length : Int) + 1))) := (KpX.of HB6.out hsb).trans (KpX.grown (grownBy_setCell' W6 (wp.heap.size + 1) _) hs6 (fun k e => by cases e; exact .inr rfl))
      have f0 := hC6.box.cell
      have f9 := hC6.box.frozen
      have HC7 := hid hC7
      have HM7 := hid hM7
      have HX7 := hid hx7
      have HK7 := hid hk7
      have HP7 := hid hp7
      clear hC6 hx6 hC7 hM7 hx7 hk7 hp7 p0 p1 p2 e1 e2 e3 n0 n9 t0
      gi_upto_region 8 with fail
      generalize W6.setCell ⟨wp.heap.size + 1, 0, none⟩ (.int .i64 ((pre.length : Int) + 1)) = W7 at *
      obtain ⟨p0, p1, p2, -, -, -⟩ := three_cells HX7.out
      have CS1 : Hid (∀ nn, CallsIn (Fence.wide.inRound l) nn Try.prog 22 #[.slice m.ka m.key.length m.kc] W7 (Spoilt W7 (Value.slice m.ka m.key.length m.kc).ownBlock)) := fun nn =>
        CallsIn.inRound l (callsIn_wide.2 (spoil_own W7 w5.heap.size _ m.key HM7.out.k hm8.1))
      have hs7 : w5.heap.size ≤ W7.heap.size := HC7.out.keep.size
      clear f0 f9
      gi_wp2_with (first | (refine ⟨trivial, ?_⟩; gi_at_call 22; refine (CS1.out _).mono ?_))
      rintro e W8 ⟨rfl, hg8⟩
      have HC8 : Hid (Cnt (wp.heap.size + 1) w5.heap.size w5 ((pre.length : Int) + 1) W8) := HC7.out.grown hs7 hg8 (fun k e => (HKL.out k e).1) (by omega)
      have hs8 : w5.heap.size ≤ W8.heap.size := HC8.out.keep.size
      have hx8 : W8.heap[W.heap.size]? = some (.cells #[.slice m.ka m.key.length m.kc, .slice m.va m.val.length m.vc, .int .i64 m.ver] 31 (0, 0)) := heap_kept hg8 HX7.out (fun e => by have := (HKL.out _ e.symm).2; omega)
      have hV8 : W8.ownsRow w5.heap.size 5 1 (.slice m.va m.val.length m.vc) m.val.length (m.val.map bv) := HM7.out.v.kept hg8 (by
        rcases hva : m.va with _ | a1
        · exact .inl rfl
        · refine .inr (fun e => ?_)
          rcases hka : m.ka with _ | a2
          · rw [hka] at e; simp [Value.ownBlock] at e
          · rw [hka] at e
            have h1 := HM7.out.apart a2 a1 hka hva
            exact h1 (by simpa [Value.ownBlock] using e.symm))
      have HK8 : Hid (KeepsFrom w5.heap.size Wb W8) := HK7.out.trans (spoil_keeps HM7.out.k hg8)
      have HP8 : Hid (KpX (wp.heap.size + 1) w5.heap.size Wb W8) := HP7.out.trans (KpX.grown hg8 hs7 (fun k e => .inl (HKL.out k e).1))
      have HV8 := hid hV8
      clear p0 p1 p2 hg8 hV8
      obtain ⟨p0, p1, p2, -, -, -⟩ := three_cells hx8
      have CS2 : Hid (∀ nn, CallsIn (Fence.wide.inRound l) nn Try.prog 22 #[.slice m.va m.val.length m.vc] W8 (Spoilt W8 (Value.slice m.va m.val.length m.vc).ownBlock)) := fun nn =>
        CallsIn.inRound l (callsIn_wide.2 (spoil_own W8 w5.heap.size _ m.val HV8.out hm8.2))
      clear hx8
      gi_wp2_with (first | (refine ⟨trivial, ?_⟩; gi_at_call 22; refine (CS2.out _).mono ?_))
      rintro e W9 ⟨rfl, hg9⟩
      have HC9 : Hid (Cnt (wp.heap.size + 1) w5.heap.size w5 ((pre.length : Int) + 1) W9) := HC8.out.grown hs8 hg9 (fun k e => (HVL.out k e).1) (by omega)
      have HK9 : Hid (KeepsFrom w5.heap.size Wb W9) := HK8.out.trans (spoil_keeps HV8.out hg9)
      have HP9 : Hid (KpX (wp.heap.size + 1) w5.heap.size Wb W9) := HP8.out.trans (KpX.grown hg9 hs8 (fun k e => .inl (HVL.out k e).1))
      clear hg9 p0 p1 p2
      gi_wp2
      exact ⟨HK9.out, HP9.out, by have h := HC9.out; show Cnt _ _ _ (((pre ++ [m]).length : Nat) : Int) _; rw [List.length_append, List.length_singleton, Int.natCast_add]; exact h⟩
  case done =>
    rintro D1 xs W hD1 hS hcnt hK
    have hxl : xs.length = PL.length := by
      have h1 := congrArg List.length hS
      have h2 := congrArg List.length HPH.out
      simp only [List.length_map] at h1 h2
      omega
    rw [hxl] at hcnt
    have hsW : w5.heap.size ≤ W.heap.size := hcnt.keep.size
    have HWp : Hid (∀ k, k < wp.heap.size → W.heap[k]? = wp.heap[k]?) := fun k hk => (hcnt.keep.block k (by have := HB5p.out.size; omega) (by omega)).trans (HB5p.out.block k hk)
    have HBW : Hid (Below w.heap.size w W) := HB5.out.trans (hcnt.keep.below (by have := HB5.out.size; omega) (by omega))
    have HPBW : Hid (W.heap[wp.heap.size]? = some (.cells #[.slice xa PL.length xc] 29 (0, 0))) := (hcnt.keep.block _ (by omega) (by omega)).trans HPB5.out
    have HRPW : Hid (RdG W ⟨xa, xc, PL⟩) := HRP5.out W hcnt.keep
    have HNW := hid hcnt.box
    have HK1 := hid hK
    have hspW := (HWp.out w.heap.size (by omega)).trans HSP.out
    have HSPW := hid hspW
    obtain ⟨s0, s1, -, -⟩ := two_cells hspW
    have n0 := hcnt.box.cell
    have t0 := cell_of0 HPBW.out
    have CS2 : Hid (Calls Try.prog 27 #[pv0, .agg #[.slice fa f.length fc, .slice ta t.length tc], .bool true] W (ScanA G f t true W)) :=
      scan_any pv0 _ _ G f t true _ (HM.out.old HBW.out) (HFR.out.old HBW.out) (HTR.out.old HBW.out) HF.out.ord (fun g hg => by have := (HF.out.ok _ (mls_mem hg)).2.1; omega) hl
    clear hcnt hK hspW hxl hS
    go_wp2_with (first | (go_at_call 27; refine CS2.out.mono ?_))
    rintro e w7 ⟨p, i, p', i', b2, ao2, H2, hn2, c2, rfl, hp, rfl, hH, hpg, hao, hfr, hbox, hbb, hbel⟩
    obtain ⟨hH8, hHl, hHb, hHm⟩ := scan_has HF.out hp hH hfr hl HB8.out
    have hfl := span_flat hp hH
    have hb1 : b2 < w7.heap.size := lt_of_block hbox
    have hsz7 : W.heap.size ≤ w7.heap.size := hbel.size
    have hKH : Hid (∀ Z, KpX (wp.heap.size + 1) w7.heap.size w7 Z → Z.cell? ⟨b2, 0, none⟩ = some (.slice ao2 H2.length c2) ∧ Pgs Z (.slice ao2 H2.length c2) H2) := fun Z h => by
      refine ⟨cell_of0 ((h.block b2 hb1 (by omega)).trans hbox), hpg.1.keep h.keep (fun _ k hk => ?_), fun g hg => (hpg.2 g hg).keep h.keep (fromG_off (w := w) HF.out (fun g hg => ?_) (fun k hk => by omega) (hfr g hg))⟩
      · obtain ⟨a, e1, rfl⟩ := blk_of hk
        have := hao a e1
        omega
      · rcases HM.out with ⟨_, rfl⟩ | ⟨base, mb, v, _, h⟩
        · cases hg
        · exact h.each g hg
    have HSQ2 := hid (falling_seq (9 - 1) (by omega) b2 (wp.heap.size + 1) w7.heap.size ao2 c2 H2 w7 hH8 hHl hHb (Nat.le_refl _) (fun Z hk => hKH.out Z hk.keep))
    have HB7 : Hid (Below w.heap.size w w7) := HBW.out.trans (hbel.mono HBW.out.size)
    have HRP7 : Hid (∀ Z, KpX (wp.heap.size + 1) w7.heap.size w7 Z → RdG Z ⟨xa, xc, PL⟩) := fun Z h => (HRPW.out.old hbel).keep h.keep (HRP.out.offnew (fun k hk => by omega))
    have HPB7 : Hid (w7.heap[wp.heap.size]? = some (.cells #[.slice xa PL.length xc] 29 (0, 0))) := (hbel.block _ (by omega)).trans HPBW.out
    have hn7 : Boxed w7 (wp.heap.size + 1) 3 (.int .i64 ((PL.length : Nat) : Int)) := (hbel.block _ (by omega)).trans HNW.out
    have HN7 := hid hn7
    have HFL2 := hid hfl
    have HPH2 : Hid (PL.map lg = (mls H2).flatten.map lg) := by show _ = _; rw [hfl]; exact HPLG.out
    have HW7 : Hid (Below W.heap.size W w7) := hbel
    clear hp hH hpg hao hfr hbox hbb hbel hfl hKH hH8 hHl hHb CS2 s0 s1 n0 t0
    simp only [if_true]
    go_wp2_with fail
    refine wpIn_wide.1 (range_outer (n := 9) rfl (by omega) (gf := 51) (lb := #[.pointer (some ⟨b2, 0, none⟩)]) ?hg2 trivial (enters_of Try.func51 (by kernel_rfl) rfl)
      HSQ2.out (fun h k => h.trans k) (fun W W' l hl ht => KpF.turn ht hl) (Below.refl _ _) (fun _ => rfl)
      (fun pre Z => KpF (wp.heap.size + 1) w7.heap.size w7 Z ∧ Cnt (wp.heap.size + 1) w7.heap.size w7 ((PL.length : Int) - (pre.length : Int)) Z) (fun _ _ _ => False)
      (OwnFrom.and (kpF_own (Nat.le_refl _) (Nat.le_refl _)) (Cnt.own (fun pre : List Lp => (PL.length : Int) - (pre.length : Int)) (Nat.le_refl _) (Nat.le_refl _) (by omega))) (fun c pre W W' row hs _ _ => hs)
      ⟨KpF.refl _ _ _, KpX.refl _ _ _, by simpa using HN7.out⟩
      ?round2 ?done2 (fun D c pre W _ _ h _ => h.elim))
    case hg2 => rfl
    case round2 =>
      intro l pre m Z hl1 hr hcnt hx
      obtain ⟨hkf, hcnt⟩ := hcnt
      obtain ⟨hmi, q, hq, hal⟩ := hx
      have hlP : PL.length = (mls H2).flatten.length := by
        have h2 := congrArg List.length HPH2.out
        simp only [List.length_map] at h2
        exact h2
      have hlen : pre.length < PL.length := by
        have h1 := (List.getElem?_eq_some_iff.1 hq).1
        rw [List.length_reverse] at h1
        omega
      obtain ⟨k, hk⟩ : ∃ k, k = PL.length - 1 - pre.length := ⟨_, rfl⟩
      rw [List.getElem?_reverse (by omega), ← hlP, ← hk] at hq
      have hv : PL[k]? = some (PL[k]'(by omega)) := List.getElem?_eq_getElem (by omega)
      generalize PL[k] = a at *
      have hsame : sameP m a = true := lg_same (by rw [alike_lg hal]; exact (lg_at HPH2.out hv hq).symm)
      have o1 := one_rd hmi.rd.1
      have o2 := one_rd hmi.rd.2
      obtain ⟨z, hz⟩ : ∃ z : Int, z = (PL.length : Int) - (pre.length : Int) := ⟨_, rfl⟩
      rw [← hz] at hcnt
      have hzk : z - 1 = (k : Int) := by omega
      have hwz : IntKind.i64.wrap (z - 1) = (k : Int) := by rw [hzk, IntKind.wrap_i64]; omega
      have HMI := hid hmi
      have HCN := hid hcnt
      have HKF := hid hkf
      have HV := hid hv
      have hsW : w7.heap.size ≤ Z.heap.size := hcnt.keep.size
      have hkl : k < PL.length := by omega
      have HZ : Hid ((k : Int) = (PL.length : Int) - ((pre.length : Int) + 1)) := by show _ = _; omega
      clear hmi hcnt hr hq hal hv hkf hzk hlP hk hz
      unfold pv
      gi_wp2
      have hbA : Below Z.heap.size Z (Z.alloc (.cells #[.slice m.ka m.key.length m.kc, .slice m.va m.val.length m.vc, .int .i64 m.ver] 31)) := (Below.refl _ _).alloc (Nat.le_refl _) _
      have hxA : (Z.alloc (.cells #[.slice m.ka m.key.length m.kc, .slice m.va m.val.length m.vc, .int .i64 m.ver] 31)).heap[Z.heap.size]? = some (.cells #[.slice m.ka m.key.length m.kc, .slice m.va m.val.length m.vc, .int .i64 m.ver] 31 (0, 0)) := heap_alloc_new _ _
      refine ⟨kf_below hbA, KpF.of hbA hsW, fun Wb hT => ?_⟩
      generalize Z.alloc (.cells #[.slice m.ka m.key.length m.kc, .slice m.va m.val.length m.vc, .int .i64 m.ver] 31) = WA at *
      have hsA : w7.heap.size ≤ WA.heap.size := Nat.le_trans hsW hbA.size
      have HCb : Hid (Cnt (wp.heap.size + 1) w7.heap.size w7 z Wb) := (HCN.out.old hsW hbA (by omega)).grown hsA hT.grown (fun r e => by cases e; exact hl1) (by omega)
      have HKFb : Hid (KpF (wp.heap.size + 1) w7.heap.size w7 Wb) := HKF.out.trans ((KpF.of hbA hsW).trans (KpF.turn hT hl1))
      have hmA : Mine w7.heap.size WA m := HMI.out.old hbA
      have HMb : Hid (Mine w7.heap.size Wb m) := by
        obtain ⟨o, ho, hc⟩ := hT.old
        exact hmA.kept hT.grown (own_ne_block hmA.k ho (fun cur e => by rw [e] at hc; cases hc)) (own_ne_block hmA.v ho (fun cur e => by rw [e] at hc; cases hc))
      have hxB : Wb.heap[Z.heap.size]? = some (.cells #[.slice m.ka m.key.length m.kc, .slice m.va m.val.length m.vc, .int .i64 m.ver] 31 (0, 0)) := heap_kept hT.grown hxA (fun e9 => by
        cases e9
        obtain ⟨o, ho, hc⟩ := hT.old
        rw [hxA] at ho
        cases ho
        cases hc)
      have hsb : w7.heap.size ≤ Wb.heap.size := HCb.out.keep.size
      have HSET : Hid (Cnt (wp.heap.size + 1) w7.heap.size w7 (k : Int) (Wb.setCell ⟨wp.heap.size + 1, 0, none⟩ (.int .i64 (k : Int)))) := HCb.out.set hsb (k : Int)
      have hkfs : KpF (wp.heap.size + 1) w7.heap.size Wb (Wb.setCell ⟨wp.heap.size + 1, 0, none⟩ (.int .i64 (k : Int))) := KpF.set HCb.out.box hsb (.int .i64 (k : Int))
      have hxC : (Wb.setCell ⟨wp.heap.size + 1, 0, none⟩ (.int .i64 (k : Int))).heap[Z.heap.size]? = some (.cells #[.slice m.ka m.key.length m.kc, .slice m.va m.val.length m.vc, .int .i64 m.ver] 31 (0, 0)) := (Below.heap_setCell Wb ⟨wp.heap.size + 1, 0, none⟩ _ Z.heap.size (by show Z.heap.size ≠ wp.heap.size + 1; omega)).trans hxB
      have hmC : Mine w7.heap.size (Wb.setCell ⟨wp.heap.size + 1, 0, none⟩ (.int .i64 (k : Int))) m := HMb.out.kept (grownBy_setCell' Wb (wp.heap.size + 1) _) (.inr (fun e => by have := (HMb.out.k.lt _ e).1; omega)) (.inr (fun e => by have := (HMb.out.v.lt _ e).1; omega))
      have hkC : KeepsFrom w7.heap.size Wb (Wb.setCell ⟨wp.heap.size + 1, 0, none⟩ (.int .i64 (k : Int))) := (KeepsOthers.setCell Wb ⟨wp.heap.size + 1, 0, none⟩ (.int .i64 (k : Int))).from w7.heap.size
      have n0 := HCb.out.box.cell
      have n9 := HCb.out.box.frozen
      clear hT hxA hbA hmA hxB
      gi_upto_region 15 with fail
      generalize Wb.setCell ⟨wp.heap.size + 1, 0, none⟩ (.int .i64 (k : Int)) = Wc at *
      have HXC := hid hxC
      have HKFS := hid hkfs
      have HKC := hid hkC
      have hsc : w7.heap.size ≤ Wc.heap.size := HSET.out.keep.size
      obtain ⟨p0, p1, p2, -, -, -⟩ := three_cells hxC
      have hprb := HRP7.out Wc HSET.out.keep
      obtain ⟨b3, off2, rfl, e1, e2, e3⟩ := Prs.get (show Prs Wc (.slice xa PL.length xc) PL from hprb) HV.out
      have hra := hprb.2 a (List.mem_of_getElem? HV.out)
      have o3 := one_rd hra.1
      have o4 := one_rd hra.2
      clear n0 n9
      have n0 := HSET.out.box.cell
      have t0 := cell_of0 ((HSET.out.keep.block wp.heap.size (by omega) (by omega)).trans HPB7.out)
      have CPR : Hid (∀ nn, CallsIn (Fence.wide.inRound l) nn Try.prog 17 #[.agg #[.slice m.ka m.key.length m.kc, .slice m.va m.val.length m.vc, .int .i64 m.ver], .agg #[.slice a.ka a.key.length a.kc, .slice a.va a.val.length a.vc, .int .i64 a.ver]] Wc.drew (AnsP Wc.drew (.bool true))) := fun nn => by
        rw [← hsame]
        exact CallsIn.inRound l (callsIn_wide.2 (pair_any m a Wc.drew hmC.rd hra))
      have hneg : ¬ ((k : Int) < 0) := by omega
      clear hprb hra hsame hmC hxC hkfs hkC
      gi_cut [62] from 52 (fun c wx => c = .bool false ∧ Hid (Below Wc.heap.size Wc wx))
      case first =>
        gi_region_with (first | (refine ⟨trivial, ?_⟩; gi_at_call 17; refine (CPR.out _).mono ?_; rintro e W6 ⟨rfl, hb6⟩))
        all_goals (gi_wp2; gi_meet; exact ⟨rfl, (Below.refl _ _).drew.trans hb6⟩)
      case rest =>
        obtain ⟨rfl, HB6⟩ := hcut
        generalize wc = W6 at *
        have hfin : KeepsFrom w7.heap.size Wb W6 ∧ KpF (wp.heap.size + 1) w7.heap.size Wb W6 ∧ KpF (wp.heap.size + 1) w7.heap.size w7 W6 ∧ Cnt (wp.heap.size + 1) w7.heap.size w7 (k : Int) W6 :=
          ⟨HKC.out.trans (kf_below HB6.out), HKFS.out.trans (KpF.of HB6.out hsc), HKFb.out.trans (HKFS.out.trans (KpF.of HB6.out hsc)), HSET.out.old hsc HB6.out (by omega)⟩
        have HFIN := hid hfin
        clear hfin p0 p1 p2 e1 e2 e3 n0 t0
        gi_wp2
        refine ⟨HFIN.out.1, HFIN.out.2.1, HFIN.out.2.2.1, ?_⟩
        have h := HFIN.out.2.2.2
        show Cnt _ _ _ ((PL.length : Int) - (((pre ++ [m]).length : Nat) : Int)) _
        rw [List.length_append, List.length_singleton, Int.natCast_add]
        rw [HZ.out] at h
        exact h
    case done2 =>
      rintro D2 xs2 Z hD2 hS2 ⟨hkf, hcnt⟩ hK2
      have hxl : xs2.length = PL.length := by
        have h1 := congrArg List.length hS2
        have h2 := congrArg List.length HPH2.out
        simp only [List.length_map, List.length_reverse] at h1 h2
        rw [h1, h2]
      have hz0 : (PL.length : Int) - (xs2.length : Int) = 0 := by omega
      rw [hz0] at hcnt
      have htot : total G = L.length := by
        have h1 := congrArg List.length HLG.out
        simp only [List.length_map] at h1
        exact h1.symm
      have hgl := HF.out.glen
      have HBZ : Hid (Below w.heap.size w Z) := HB7.out.trans (hcnt.keep.below (by have := HB7.out.size; omega) (by omega))
      have hsz5 : w5.heap.size ≤ W.heap.size := hsW
      have hkk : ∀ k, k < W.heap.size → k ≠ wp.heap.size + 1 → Z.heap[k]? = W.heap[k]? := fun k h1 h2 => (hcnt.keep.block k (by have := HW7.out.size; omega) h2).trans (HW7.out.block k h1)
      have HRSZ : Hid (Z.heap[w.heap.size + 1]? = some (.cells #[.bool false] 4 (0, 0))) := (hkk _ (by omega) (by omega)).trans ((HWp.out _ (by omega)).trans HRS.out)
      have HKZ1 : Hid (Z.heap[D1]? = some (.deferred (some []))) := (hkk _ (lt_of_block HK1.out) (by omega)).trans HK1.out
      have HKZ2 := hid hK2
      have HNZ := hid hcnt.box
      have hne12 : D2 ≠ D1 := by have := lt_of_block HK1.out; omega
      clear hkf hcnt hK2 hS2 hz0 hkk hxl
      go_wp2_with (first | (go_at_call 29; refine (sizes_any pv0 G Z (HM.out.old HBZ.out) (by omega)).mono ?_))
      rintro e z8 ⟨x, rfl, hx, hb8⟩
      obtain ⟨xo, xq, rfl⟩ := own_lenG hx
      have hrw : Rws 1 z8 (.slice xo G.length xq) (G.map fun g => [iv g.M.length]) := by
        refine Rws.own (base := Z.heap.size) (e := 3) ?_ (fun r hr => ?_)
        · rw [List.length_map]
          rw [flat_iv]
          exact hx
        · obtain ⟨g, _, rfl⟩ := List.mem_map.1 hr
          exact ⟨rfl, fun u hu => by simp at hu; subst hu; rfl⟩
      have HRW := hid hrw
      have HB8 := hid hb8
      have n0 := ((HNZ.out : Boxed Z (wp.heap.size + 1) 3 (.int .i64 0)).kept (grown_below hb8 none) (by simp)).cell
      have hrs8 : z8.heap[w.heap.size + 1]? = some (.cells #[.bool false] 4 (0, 0)) := (hb8.block _ (lt_of_block HRSZ.out)).trans HRSZ.out
      have HRS8 := hid hrs8
      have r0 := cell_of0 hrs8
      have r9 : z8.frozen? ⟨w.heap.size + 1, 0, none⟩ = false := by simp [World.frozen?, hrs8]
      have HK81 : Hid (z8.heap[D1]? = some (.deferred (some []))) := (hb8.block _ (lt_of_block HKZ1.out)).trans HKZ1.out
      have HK82 : Hid (z8.heap[D2]? = some (.deferred (some []))) := (hb8.block _ (lt_of_block HKZ2.out)).trans HKZ2.out
      have HBZ8 : Hid (Below w.heap.size w z8) := HBZ.out.trans (hb8.mono HBZ.out.size)
      have CL := len_any pv0 G z8 (HM.out.old HBZ8.out) (by omega) (by omega)
      rw [htot] at CL
      have CLH := hid CL
      clear hx hrw hb8 hrs8 CL
      go_wp2_with fail
      go_loop [12, 13] (fun s i => ∃ k : Nat, k ≤ G.length ∧ i = .int .i64 k ∧ s = .int .i64 (cnt G k : Int)) (fun _ i => G.length - (intOf i).toNat)
      case atStart => exact ⟨0, by omega, rfl, rfl⟩
      case round =>
        obtain ⟨k, hk, rfl, rfl⟩ := hrel
        by_cases hlt : k < G.length
        · have hv := List.getElem?_eq_getElem hlt
          generalize G[k] = g at *
          have hgm : g ∈ G := List.mem_of_getElem? hv
          obtain ⟨k1, k2, k3⟩ := HF.out.ok _ (mls_mem hgm)
          rw [mls_len] at k3
          obtain ⟨b4, off4, rfl, d1⟩ := HRW.out.get (by decide) (k := k) (r := [iv g.M.length]) (by rw [List.getElem?_map, hv]; rfl)
          have d0 : z8.cell? ⟨b4, off4 + k, none⟩ = some (.int .i64 (g.M.length : Int)) := by have := d1 0 _ rfl; rw [Nat.mul_one] at this; exact this
          have hs := flat_take G hv
          have hle := flat_le G (k + 1)
          have hw : IntKind.i64.wrap ((cnt G k : Int) + (g.M.length : Int)) = ((cnt G (k + 1) : Nat) : Int) := by rw [IntKind.wrap_i64]; omega
          have i1 : ¬ ((g.M.length : Int) < 1) := by omega
          have i2 : ¬ ((8 : Int) < (g.M.length : Int)) := by omega
          have i1' : ¬ (g.M.length < 1) := by omega
          have i2' : ¬ (8 < g.M.length) := by omega
          clear hv d1 hs hle
          by_cases h1 : 1 < G.length
          · have k4 := k3 h1
            have i3 : ¬ ((g.M.length : Int) < 4) := by omega
            have i3' : ¬ (g.M.length < 4) := by omega
            have i4 : (1 : Int) < (G.length : Int) := by omega
            go_wp2_with fail
            go_round
            case rel => exact ⟨k + 1, by omega, by go_num, rfl⟩
            case measure => simp [intOf]; omega
          · have i4 : ¬ ((1 : Int) < (G.length : Int)) := by omega
            go_wp2_with fail
            go_round
            case rel => exact ⟨k + 1, by omega, by go_num, rfl⟩
            case measure => simp [intOf]; omega
        · obtain rfl : k = G.length := by omega
          rw [cnt_all, htot]
          go_wp2_with (first | (go_at_call 28; refine CLH.out.mono ?_; rintro e z9 ⟨rfl, rfl⟩))
          have hb1 : Below w.heap.size w (z9.setCell ⟨w.heap.size + 1, 0, none⟩ (.bool true)) := HBZ8.out.setCell (by show w.heap.size ≤ w.heap.size + 1; omega) _
          have ha1 : (z9.setCell ⟨w.heap.size + 1, 0, none⟩ (.bool true)).heap[D2]? = some (.deferred (some [])) := (Below.heap_setCell z9 ⟨w.heap.size + 1, 0, none⟩ _ D2 (by show D2 ≠ w.heap.size + 1; omega)).trans HK82.out
          have ha2 : (z9.setCell ⟨w.heap.size + 1, 0, none⟩ (.bool true)).heap[D1]? = some (.deferred (some [])) := (Below.heap_setCell z9 ⟨w.heap.size + 1, 0, none⟩ _ D1 (by show D1 ≠ w.heap.size + 1; omega)).trans HK81.out
          have ha3 : (z9.setCell ⟨w.heap.size + 1, 0, none⟩ (.bool true)).heap[w.heap.size + 1]? = some (.cells #[.bool true] 4 (0, 0)) := Boxed.set (.bool true) HRS8.out
          refine ⟨by simp, .inl ⟨_, _, rfl, run_takeDeferred ha1, by simp, .inl ⟨_, _, rfl, run_takeDeferred ((World.putObj_heap_other (Ne.symm hne12)).trans ha2), ?_⟩⟩⟩
          refine ⟨.bool true, results_bool rfl _ _ (w.heap.size + 1) true rfl (cell_of0 ((World.putObj_heap_other (by omega)).trans ((World.putObj_heap_other (by omega)).trans ha3))), rfl, ?_⟩
          exact (hb1.grown (grownBy_putObj' _ D2 _) hb1.size (fun k e => by cases e; omega)).grown (grownBy_putObj' _ D1 _) (by have := hb1.size; have h9 := (grownBy_putObj' (z9.setCell ⟨w.heap.size + 1, 0, none⟩ (.bool true)) D2 (.deferred none)).size; omega) (fun k e => by cases e; omega)
end Go.Proofs.Ytcgnghkjkdkmmaa
