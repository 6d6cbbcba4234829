/-
  PAGES: Take.
-/
import Derived.Test.YtcgnghkjkdkmmaaGtk
set_option linter.unusedVariables false
namespace Go.Proofs.Ytcgnghkjkdkmmaa
open Go.RowKit Go.Shelf
attribute [local go_sem] Oper.semAt_some

theorem Mine.newp {n : Nat} {W : World} {m : Lp} (h : Mine n W m) : NewP n m :=
  ⟨fun a ha => (h.k.lt a.block (by rw [ha]; rfl)).1, fun a ha => (h.v.lt a.block (by rw [ha]; rfl)).1⟩

theorem fromG_off {G : List Pg} {w : World} {h : Pg} {X : Nat → Prop} (hF : Fit G) (hG : ∀ g ∈ G, RdG w g) (hx : ∀ k, X k → w.heap.size ≤ k) (hh : FromG G h) : OffG X h := by
  refine ⟨fun _ a ha hX => ?_, fun m hm => ?_⟩
  · obtain ⟨g, hg, b, hb, e⟩ := hh.1 a ha
    have hne : g.M ≠ [] := fun e => by have := (hF.ok _ (mls_mem hg)).1; rw [e] at this; simp at this
    have := ((hG g hg).offnew hx).1 hne b hb
    rw [e] at this
    exact this hX
  · have hmf := hh.2 m hm
    obtain ⟨l, hl, hm2⟩ := List.mem_flatten.1 hmf
    obtain ⟨g, hg, rfl⟩ := List.mem_map.1 hl
    exact ((hG g hg).2 m hm2).offnew hx

theorem betw_len {α : Type} (ML : List (List α)) (p i p' i' : Nat) : (betw ML p i p' i').length ≤ ML.length + 2 := by
  unfold betw
  split
  · simp
  · simp only [List.length_append, List.length_cons, List.length_drop, List.length_take, List.length_nil]
    omega

theorem len_mem {α : Type} {L : List (List α)} {g : List α} (h : g ∈ L) : g.length ≤ L.flatten.length := by
  induction L with
  | nil => cases h
  | cons x l ih =>
    rw [List.flatten_cons, List.length_append]
    rcases List.mem_cons.1 h with rfl | h
    · omega
    · have := ih h; omega

/-- What an iterator's pages hold: the span's pairs; each is as it should be. -/
theorem span_flat {G H : List Pg} {f t : List UInt8} {p i p' i' : Nat} (hP : PartOk (mls G) f t p i p' i') (hH : mls H = betw (mls G) p i p' i') : (mls H).flatten = (mls G).flatten.filter fun m => inSpan f t m.key := by
  rw [hH, hP.mid]
  exact betw_flat _ _ _ _ _ hP.le hP.same (bound_of (Nat.le_trans hP.le hP.le') hP.here hP.none) (bound_of hP.le' hP.here' hP.none')

theorem cell_isCells {w : World} {a : Addr} {u : Value} (h : w.cell? a = some u) {o : Obj} (ho : w.heap[a.block]? = some o) : o.isCells = true := by
  unfold World.cell? at h
  rw [ho] at h
  cases o <;> simp_all [Obj.isCells]

theorem rd_cells {w : World} {ao : Option Addr} {n c : Nat} {l : List UInt8} (h : Rd w (.slice ao n c) l) (hn : l ≠ []) {a : Addr} (ha : ao = some a) {o : Obj} (ho : w.heap[a.block]? = some o) : o.isCells = true := by
  subst ha
  obtain ⟨ao', c', he, h1, h2, h3, h4⟩ := h
  simp only [Value.slice.injEq] at he
  obtain ⟨rfl, rfl, rfl⟩ := he
  cases l with
  | nil => exact (hn rfl).elim
  | cons x l => exact cell_isCells (h4 a rfl 0 _ rfl) (by rw [add_block]; exact ho)
theorem rws_cells {size : Nat} {w : World} {ao : Option Addr} {n c : Nat} {L : List (List Value)} (hs : 0 < size) (h : Rws size w (.slice ao n c) L) (hn : L ≠ []) {a : Addr} (ha : ao = some a) {o : Obj} (ho : w.heap[a.block]? = some o) : o.isCells = true := by
  cases L with
  | nil => exact (hn rfl).elim
  | cons r l =>
    have hr := h.wide r (by simp)
    obtain ⟨b, off, e, hc⟩ := h.get hs (k := 0) (r := r) rfl
    rw [ha] at e
    cases e
    have hr0 : r[0]? = some (r[0]'(by omega)) := List.getElem?_eq_getElem (by omega)
    exact cell_isCells (hc 0 _ hr0) ho
theorem RdP.offD {w : World} {m : Lp} {D : Nat} {o : Obj} (h : RdP w m) (ho : w.heap[D]? = some o) (hc : o.isCells = false) : OffP (fun k => k = D) m :=
  ⟨fun hn a ha e => (by have := rd_cells h.1 hn ha (by rw [e]; exact ho); rw [hc] at this; cases this), fun hn a ha e => (by have := rd_cells h.2 hn ha (by rw [e]; exact ho); rw [hc] at this; cases this)⟩
theorem RdG.offD {w : World} {g : Pg} {D : Nat} {o : Obj} (h : RdG w g) (ho : w.heap[D]? = some o) (hc : o.isCells = false) : OffG (fun k => k = D) g :=
  ⟨fun hn a ha e => (by have := rws_cells (by decide) h.1 (fun e => hn (List.map_eq_nil_iff.1 e)) ha (by rw [e]; exact ho); rw [hc] at this; cases this), fun m hm => (h.2 m hm).offD ho hc⟩

/-- What Take gives. -/
def TakeA (base mb : Nat) (v : Value) (G : List Pg) (f t : List UInt8) (w : World) (e : Ending) (w' : World) : Prop :=
  ∃ (xa : Option Addr) (xc : Nat) (xs : List Lp), e = .returned (.slice xa xs.length xc) ∧ xs.map lg = ((mls G).flatten.filter fun m => inSpan f t m.key).map lg ∧ Prs w' (.slice xa xs.length xc) xs ∧ (∀ a, xa = some a → w.heap.size ≤ a.block) ∧ (∀ m ∈ xs, NewP w.heap.size m) ∧
    (xs = [] → Below w.heap.size w w') ∧ (xs ≠ [] → ∃ v' G', Turned base mb v G ((mls G).flatten.filter fun m => !inSpan f t m.key) w w' v' G' ∧ OffG (MX mb v') ⟨xa, xc, xs⟩)

/-- A list's going. -/
theorem part_gone {ML : List (List Lp)} {f t : List UInt8} {p i p' i' : Nat} (h : PartOk ML f t p i p' i') : (changeL ML p i p' i' []).flatten = ML.flatten.filter fun m => !inSpan f t m.key := by
  rw [change_flat, h.out, take_idx _ _ _ (bound_of (Nat.le_trans h.le h.le') h.here h.none), drop_idx _ _ _ (bound_of h.le' h.here' h.none')]
  unfold headL
  simp

theorem take_fin {base mb : Nat} {v v' : Value} {G G' : List Pg} {f t : List UInt8} {p i p' i' : Nat} {w W wz : World} (HF : Fit G) (HP : PartOk (mls G) f t p i p' i')
    (hW : Below w.heap.size w W) (z1 : Mp base wz mb v' G') (z2 : mls G' = changeL (mls G) p i p' i' []) (z3 : Keep (MX mb v) W wz) (z4 : ∀ k, v'.ownBlock = some k → v.ownBlock = some k ∨ W.heap.size ≤ k) (z5 : ∀ g ∈ G', g ∈ G ∨ ∀ a, g.a = some a → W.heap.size ≤ a.block) :
    Turned base mb v G ((mls G).flatten.filter fun m => !inSpan f t m.key) w wz v' G' := by
  have hfl : (mls G').flatten = (mls G).flatten.filter fun m => !inSpan f t m.key := by rw [z2]; exact part_gone HP
  have hb := bound_of (Nat.le_trans HP.le HP.le') HP.here HP.none
  have hb' := bound_of HP.le' HP.here' HP.none'
  have hpg := HF.page p
  have hpg' := HF.page p'
  have hhl : (headL (mls G) p i p' i' []).length ≤ 16 := by
    unfold headL
    simp only [List.length_append, List.length_take, List.length_drop, List.length_nil]
    omega
  refine ⟨z1, ⟨?_, ?_, ?_⟩, hfl, (Keep.of_below hW).trans z3, fun k hk => (z4 k hk).imp id (fun h => Nat.le_trans hW.size h), fun g hg => (z5 g hg).imp id (fun h a ha => Nat.le_trans hW.size (h a ha)), fun x hx => ?_⟩
  · rw [z2]
    refine change_ok (mls G) p i p' i' [] HF.ok HP.le HP.le' hhl (fun e => ?_)
    have e2 : p' = (mls G).length := by have := HP.le; have := HP.le'; omega
    unfold headL
    rw [pgAt_ge (by omega), pgAt_ge (by omega)]
    simp
  · rw [hfl]; exact List.Pairwise.filter _ HF.srt
  · rw [hfl]; exact Nat.le_trans (List.length_filter_le _ _) HF.len
  · rw [hfl] at hx
    exact .inl (List.mem_filter.1 hx).1

theorem Turned.put {base mb : Nat} {v v' : Value} {G G' : List Pg} {L : List Lp} {w wz : World} {D : Nat} {o : Obj} (h : Turned base mb v G L w wz v' G') (hD : w.heap.size ≤ D) (hm : mb < w.heap.size) (ho : wz.heap[D]? = some o) (hc : o.isCells = false) (o' : Obj) :
    Turned base mb v G L w (wz.putObj D o') v' G' := by
  have hk : Keep (fun k => k = D) wz (wz.putObj D o') := Keep.of_grown (grownBy_putObj' wz D o') (fun k e => by cases e; rfl)
  refine ⟨h.mp.keep hk (fun k hx e => ?_) (fun g hg => (h.mp.each g hg).offD ho hc), h.fit, h.flat, ⟨hk.os.trans h.keep.os, hk.tape.trans h.keep.tape, hk.output.trans h.keep.output, Nat.le_trans h.keep.size hk.size, fun k hk1 hk2 => (hk.block k (Nat.lt_of_lt_of_le hk1 h.keep.size) (by omega)).trans (h.keep.block k hk1 hk2)⟩, h.vnew, h.pages, h.pairs⟩
  subst e
  rcases hx with e | e
  · omega
  · have h9 := h.mp.own
    rcases h9.2 with ⟨e2, _⟩ | ⟨g, cap, cur, e2, _, hg, _⟩
    · rw [e2] at e; simp [Value.ownBlock] at e
    · rw [e2] at e
      obtain rfl : g = k := by simpa [Value.ownBlock] using e
      rw [hg] at ho
      cases ho
      cases hc


set_option maxHeartbeats 16000000 in
set_option maxRecDepth 100000 in
theorem take_any (base mb : Nat) (v pv0 fv tv : Value) (G : List Pg) (f t : List UInt8) (w : World) (hM : (pv0 = .pointer none ∧ G = []) ∨ (pv0 = .pointer (some ⟨mb, 0, none⟩) ∧ Mp base w mb v G)) (hF : Fit G) (hf : Rd w fv f) (ht : Rd w tv t) (hl : G.length ≤ 10000)
    (hb8 : ∀ m ∈ (mls G).flatten, m.key.length ≤ 140737488355328 ∧ m.val.length ≤ 140737488355328) :
    Calls Try.prog 16 #[pv0, .agg #[fv, tv]] w (TakeA base mb v G f t w) := by
  have hff := hf
  have htt := ht
  obtain ⟨fa, fc, rfl, -⟩ := hff
  obtain ⟨ta, tc, rfl, -⟩ := htt
  have HM := hid hM
  have HF := hid hF
  have HB8 := hid hb8
  have HMR : Hid (MapR w pv0 G) := hM.imp id fun h => ⟨base, mb, v, h.1, h.2⟩
  have HRG : Hid (∀ g ∈ G, RdG w g) := by
    rcases hM with ⟨_, rfl⟩ | ⟨_, h⟩
    · exact fun g hg => by cases hg
    · exact h.each
  have hbs : Below w.heap.size w ((w.alloc (.cells #[.slice fa f.length fc, .slice ta t.length tc] 25)).alloc (.cells #[.slice none 0 0] 29)) := ((Below.refl _ _).alloc (Nat.le_refl _) _).alloc (by simp) _
  have hsp0 : ((w.alloc (.cells #[.slice fa f.length fc, .slice ta t.length tc] 25)).alloc (.cells #[.slice none 0 0] 29)).heap[w.heap.size]? = some (.cells #[.slice fa f.length fc, .slice ta t.length tc] 25 (0, 0)) := (Below.heap_alloc _ _ _ (by simp)).trans (heap_alloc_new _ _)
  have hli0 : ((w.alloc (.cells #[.slice fa f.length fc, .slice ta t.length tc] 25)).alloc (.cells #[.slice none 0 0] 29)).heap[w.heap.size + 1]? = some (.cells #[.slice none 0 0] 29 (0, 0)) := heap_alloc2_new _ _ _
  have CS : Hid (Calls Try.prog 27 #[pv0, .agg #[.slice fa f.length fc, .slice ta t.length tc], .bool false] ((w.alloc (.cells #[.slice fa f.length fc, .slice ta t.length tc] 25)).alloc (.cells #[.slice none 0 0] 29)) (ScanA G f t false ((w.alloc (.cells #[.slice fa f.length fc, .slice ta t.length tc] 25)).alloc (.cells #[.slice none 0 0] 29)))) :=
    scan_any pv0 _ _ G f t false _ (HMR.out.old hbs) (hf.old hbs) (ht.old hbs) hF.ord (fun g hg => by have := (hF.ok _ (mls_mem hg)).2.1; omega) hl
  have HFR := hid hf
  have HTR := hid ht
  have HBS := hid hbs
  have HSP := hid hsp0
  have HLI := hid hli0
  have hss : ((w.alloc (.cells #[.slice fa f.length fc, .slice ta t.length tc] 25)).alloc (.cells #[.slice none 0 0] 29)).heap.size = w.heap.size + 2 := by simp
  clear hM hF hb8 hbs hsp0 hli0 hf ht
  refine calls_marks Try.func16 rfl ?_
  simp only [Try.ntmps16, List.size_toArray, List.length_cons, List.length_nil, Nat.reduceAdd, Nat.reduceSub, Array.replicate_succ, Array.replicate_zero, List.push_toArray, List.append_toArray, List.nil_append, List.cons_append]
  go_wp2_with (first | (go_at_call 27; refine CS.out.mono ?_))
  generalize ((w.alloc (.cells #[.slice fa f.length fc, .slice ta t.length tc] 25)).alloc (.cells #[.slice none 0 0] 29)) = ws at *
  rintro e w1 ⟨p, i, p', i', b, ao, H, hn, c, rfl, hp, rfl, hH, hpg, hao, hfr, hbox, hbb, hbel⟩
  have hfl := span_flat hp hH
  have hb1 : b < w1.heap.size := lt_of_block hbox
  have hne1 : b ≠ w.heap.size + 1 := by omega
  have hsz1 : w.heap.size + 2 ≤ w1.heap.size := by have := hbel.size; omega
  have hKH : Hid (∀ W, KpX (w.heap.size + 1) w1.heap.size w1 W → W.cell? ⟨b, 0, none⟩ = some (.slice ao H.length c) ∧ Pgs W (.slice ao H.length c) H) := fun W h => by
    refine ⟨cell_of0 ((h.block b hb1 hne1).trans hbox), hpg.1.keep h.keep (fun _ k hk => ?_), fun g hg => (hpg.2 g hg).keep h.keep (fromG_off HF.out HRG.out (fun k hk => by omega) (hfr g hg))⟩
    obtain ⟨a, e1, rfl⟩ := blk_of hk
    have := hao a e1
    omega
  have hH8 : ∀ g ∈ H, g.M.length ≤ 1000000 := fun g hg => by
    have h1 := len_mem (mls_mem hg)
    rw [hfl] at h1
    have h2 := List.length_filter_le (fun m : Lp => inSpan f t m.key) (mls G).flatten
    have := HF.out.len
    omega
  have hHl : H.length ≤ 1000000 := by
    have h1 := betw_len (mls G) p i p' i'
    rw [← hH, mls_len, mls_len] at h1
    omega
  have hHb : ∀ g ∈ H, ∀ m ∈ g.M, m.key.length ≤ 140737488355328 ∧ m.val.length ≤ 140737488355328 := fun g hg m hm => HB8.out m ((hfr g hg).2 m hm)
  have hbx1 : Boxed w1 (w.heap.size + 1) 29 (.slice none 0 0) := (hbel.block _ (by omega)).trans HLI.out
  have HSP1 : Hid (w1.heap[w.heap.size]? = some (.cells #[.slice fa f.length fc, .slice ta t.length tc] 25 (0, 0))) := (hbel.block _ (by omega)).trans HSP.out
  have hML : (mls H).flatten.length ≤ 100000 := by
    rw [hfl]; exact Nat.le_trans (List.length_filter_le _ _) HF.out.len
  have HSQ := hid (rising_seq (9 - 1) (by omega) b w1.heap.size ao c H w1 hH8 hHl hHb (KpX (w.heap.size + 1) w1.heap.size) (KpX.refl _ _) (fun h k => h.trans k) (fun h => h.size) (fun h k => KpX.of k h) (Nat.le_refl _) hKH.out)
  have HB1 : Hid (Below w.heap.size w w1) := HBS.out.trans (hbel.mono (by omega))
  have HFL := hid hfl
  have HPO := hid hp
  clear hp hH hpg hao hfr hbox hbb hbel hKH hH8 hHl hHb HSP HLI CS HBS hfl
  simp only [Bool.false_eq_true, if_false]
  go_wp2_with fail
  refine wpIn_wide.1 (range_outer (n := 9) rfl (by omega) (gf := 54) (lb := #[.pointer (some ⟨b, 0, none⟩)]) ?hg trivial (enters_of Try.func54 (by kernel_rfl) rfl)
    HSQ.out (fun h k => h.trans k) (fun W W' l hl ht => KpX.turn ht hl) (Below.refl _ _) (fun _ => rfl)
    (Col (w.heap.size + 1) w1.heap.size w1) (fun _ _ _ => False) (Col.own (Nat.le_refl _) (Nat.le_refl _)) (fun c pre W W' row hs _ _ => hs)
    ⟨⟨_, hbx1, World.ownsRow_nil _ _ _ _⟩, (fun m hm => by cases hm), KpX.refl _ _ _⟩
    ?round ?done (fun D c pre W _ _ h _ => h.elim))
  case hg => rfl
  case round =>
    intro l pre m W hl hr hcol hx
    have o1 := one_rd hx.1.rd.1
    have o2 := one_rd hx.1.rd.2
    have hlen : pre.length < (mls H).flatten.length := by
      obtain ⟨_, q, hq, _⟩ := hx
      exact (List.getElem?_eq_some_iff.1 hq).1
    have HX := hid hx.1
    have HC := hid hcol
    have hsW : w1.heap.size ≤ W.heap.size := hcol.keep.size
    clear hx hcol hr
    unfold pv
    gi_wp2
    have hbA : Below W.heap.size W (W.alloc (.cells #[.slice m.ka m.key.length m.kc, .slice m.va m.val.length m.vc, .int .i64 m.ver] 31)) := (Below.refl _ _).alloc (Nat.le_refl _) _
    have hxA : (W.alloc (.cells #[.slice m.ka m.key.length m.kc, .slice m.va m.val.length m.vc, .int .i64 m.ver] 31)).heap[W.heap.size]? = some (.cells #[.slice m.ka m.key.length m.kc, .slice m.va m.val.length m.vc, .int .i64 m.ver] 31 (0, 0)) := heap_alloc_new _ _
    refine ⟨kf_below hbA, KpX.of hbA hsW, fun Wb hT => ?_⟩
    generalize W.alloc (.cells #[.slice m.ka m.key.length m.kc, .slice m.va m.val.length m.vc, .int .i64 m.ver] 31) = WA at *
    have hcA := HC.out.old (Nat.le_refl _) hbA
    have hmA : Mine w1.heap.size WA m := HX.out.old hbA
    have hsA : w1.heap.size ≤ WA.heap.size := Nat.le_trans hsW hbA.size
    have hTn : ∀ r, (some l : Option Nat) = some r → w1.heap.size ≤ r ∧ ∃ o : Obj, WA.heap[r]? = some o ∧ o.isCells = false := fun r e => by cases e; exact ⟨hl, hT.old⟩
    have HCb : Hid (Col (w.heap.size + 1) w1.heap.size w1 pre Wb) := hcA.grown hsA hT.grown hTn
    have HMb : Hid (Mine w1.heap.size Wb m) := by
      obtain ⟨o, ho, hc⟩ := hT.old
      exact hmA.kept hT.grown (own_ne_block hmA.k ho (fun cur e => by rw [e] at hc; cases hc)) (own_ne_block hmA.v ho (fun cur e => by rw [e] at hc; cases hc))
    have hxB : Wb.heap[W.heap.size]? = some (.cells #[.slice m.ka m.key.length m.kc, .slice m.va m.val.length m.vc, .int .i64 m.ver] 31 (0, 0)) := heap_kept hT.grown hxA (fun e9 => by
      cases e9
      obtain ⟨o, ho, hc⟩ := hT.old
      rw [hxA] at ho
      cases ho
      cases hc)
    obtain ⟨p0, p1, p2, -, -, -⟩ := three_cells hxB
    obtain ⟨v0, hbv, hrow⟩ := HCb.out.row
    have hsb : w1.heap.size ≤ Wb.heap.size := HCb.out.keep.size
    have q0 := hbv.cell
    obtain ⟨v', w3, hrun, hown', hgrow, -⟩ := run_append_new (P := Try.prog) (w := Wb.alloc (.cells (rowP m).toArray 31)) w1.heap.size 29 29 31 3 56 Try.underlying29 _ info_pair (by decide) (by decide) v0 pre.length _ (hrow.alloc _)
      (.slice (some ⟨Wb.heap.size, 0, none⟩) 1 1) [rowP m] (Rws.one rfl HMb.out.rd.wide) (by simp; omega) (by unfold maxLen; simp; omega) (by simp; omega)
    obtain ⟨a1, a2, a3, a4⟩ := Col.add HCb.out (Nat.le_refl _) (by omega) HMb.out hbv hrow (by simpa using hown') hgrow
    have q1 := a1.cell
    have q2 := a1.frozen
    have A2 := hid a2
    have A3 := hid a3
    have A4 := hid a4
    obtain ⟨g', cap', rfl⟩ := ownsRow_succ (show w3.ownsRow w1.heap.size 31 3 v' (pre.length + 1) _ from hown')
    have hrun' : (Builtin.append_ #[29, 29] 29 #[v0, .slice (some ⟨Wb.heap.size, 0, none⟩) 1 1]).run Try.prog (Wb.alloc (.cells #[.slice m.ka m.key.length m.kc, .slice m.va m.val.length m.vc, .int .i64 m.ver] 31)) = .ok (.slice (some ⟨g', 0, none⟩) (pre.length + 1) cap') w3 := hrun
    clear hrun
    clear a1 a2 a3 a4 hown' hgrow hrow hbv hcA hmA hTn hT hxA hxB hbA
    have HRUN := hid hrun'
    clear hrun'
    gi_wp2_with (gi_at_builtin; refine wpListIn_app _ rfl _ _ 29 rfl _ _ _ _ rfl rfl HRUN.out ?_)
    gi_wp2
    exact ⟨A3.out.from _, A4.out, A2.out⟩
  case done =>
    intro D xs W hD hS hcol hK
    have HBW : Hid (Below w.heap.size w W) := HB1.out.trans (hcol.keep.below (by omega) (by omega))
    obtain ⟨v1, hbv, hrow⟩ := hcol.row
    have hprs : Prs W v1 xs := Prs.own hrow (fun m hm => (hcol.each m hm).rd)
    obtain ⟨xa, xc, rfl, -⟩ := hprs.form
    have hrd : RdG W ⟨xa, xc, xs⟩ := hprs
    have hoD : OffG (fun k => k = D) ⟨xa, xc, xs⟩ := hrd.offD hK rfl
    have hoM : ∀ X : Nat → Prop, (∀ k, X k → k < w1.heap.size) → OffG X ⟨xa, xc, xs⟩ := fun X hX => ⟨fun _ a ha hk => by have := (hrow.lt a.block (by rw [show xa = some a from ha]; rfl)).1; have := hX _ hk; omega, fun m hm => ⟨fun _ a ha hk => by have := ((hcol.each m hm).newp).1 a ha; have := hX _ hk; omega, fun _ a ha hk => by have := ((hcol.each m hm).newp).2 a ha; have := hX _ hk; omega⟩⟩
    have hxn : ∀ a, xa = some a → w.heap.size ≤ a.block := fun a ha => by have := (hrow.lt a.block (by rw [ha]; rfl)).1; omega
    have hmn : ∀ m ∈ xs, NewP w.heap.size m := fun m hm => ⟨fun a ha => by have := ((hcol.each m hm).newp).1 a ha; omega, fun a ha => by have := ((hcol.each m hm).newp).2 a ha; omega⟩
    have q0 := hbv.cell
    have hsW : w1.heap.size ≤ W.heap.size := hcol.keep.size
    have HSPW : Hid (W.heap[w.heap.size]? = some (.cells #[.slice fa f.length fc, .slice ta t.length tc] 25 (0, 0))) := (hcol.keep.block _ (by omega) (by omega)).trans HSP1.out
    rw [HFL.out] at hS
    have HRD := hid hrd
    have HOD := hid hoD
    have HOM := hid hoM
    have HXN := hid hxn
    have HMN := hid hmn
    have HS9 := hid hS
    have HK := hid hK
    have HBV := hid hbv
    clear hrow hprs hrd hoD hoM hxn hmn hK hbv hcol
    have hDk : ∀ Z : World, Keep (fun k => k = D) Z (Z.putObj D (.deferred none)) := fun Z => Keep.of_grown (grownBy_putObj' Z D _) (fun k e => by cases e; rfl)
    by_cases hne : xs = []
    · subst hne
      go_wp2_with fail
      refine ⟨by simp, .inl ⟨_, _, rfl, run_takeDeferred HK.out, ?_⟩⟩
      refine ⟨_, results_tmp rfl _ _ _, xa, xc, [], rfl, HS9.out, RdG.keep HRD.out (hDk W) HOD.out, HXN.out, HMN.out, fun _ => (HBW.out).trans ((hDk W).below (by have := HBW.out.size; omega) (fun k e => by omega)), fun h => (h rfl).elim⟩
    · have hpos : xs.length ≠ 0 := fun e => hne (List.eq_nil_of_length_eq_zero e)
      have hGne : G ≠ [] := fun e => by
        have h9 := HS9.out
        rw [e] at h9
        simp [mls] at h9
        exact hne h9
      rcases HM.out with ⟨_, e⟩ | ⟨rfl, hm⟩
      · exact (hGne e).elim
      have hmb : mb < w.heap.size := lt_of_block hm.hd
      have hvo : ∀ k, v.ownBlock = some k → k < w.heap.size := fun k hk => (hm.own.lt k hk).2
      obtain ⟨vo, vc, rfl, -⟩ := hm.pgs.form
      have HMM := hid hm
      have hmx : ∀ k, MX mb (.slice vo G.length vc) k → k < w.heap.size := fun k hk => by
        rcases hk with e | e
        · omega
        · exact hvo k e
      have HMX := hid hmx
      clear hm hvo hmx
      have HSW : Hid (∀ W', Below W.heap.size W W' → (Hid (Below W.heap.size W W') ∧ W'.cell? ⟨w.heap.size, 0, none⟩ = some (.slice fa f.length fc) ∧ W'.cell? ⟨w.heap.size, 1, none⟩ = some (.slice ta t.length tc) ∧ W'.cell? ⟨mb, 0, none⟩ = some (.slice vo G.length vc))) := fun W' h => by
        obtain ⟨a1, a2, -, -⟩ := two_cells ((h.block _ (lt_of_block HSPW.out)).trans HSPW.out)
        have h3 := (HMM.out.old HBW.out).hd
        exact ⟨h, a1, a2, cell_of0 ((h.block _ (lt_of_block h3)).trans h3)⟩
      have CP : Hid (∀ W', Below W.heap.size W W' → Calls Try.prog 34 #[.slice vo G.length vc, .agg #[.slice fa f.length fc, .slice ta t.length tc]] W' (PartA G f t W')) := fun W' h => by
        have hb : Below w.heap.size w W' := HBW.out.trans (h.mono HBW.out.size)
        exact gpart_any _ _ _ G f t W' (HMM.out.pgs.old hb) (HFR.out.old hb) (HTR.out.old hb) HF.out.ord
      go_upto_region 6 with fail
      go_cut [7, 8] from 19 to 28 (fun x y wx => ∃ p i p' i' b1 b2, x = .pointer (some ⟨b1, 0, none⟩) ∧ y = .pointer (some ⟨b2, 0, none⟩) ∧ PartOk (mls G) f t p i p' i' ∧ wx.heap[b1]? = some (.cells #[.int .i64 (p : Int), .int .i64 (i : Int)] 67 (0, 0)) ∧ wx.heap[b2]? = some (.cells #[.int .i64 (p' : Int), .int .i64 (i' : Int)] 67 (0, 0)) ∧ Below W.heap.size W wx)
      case first =>
        have hb0 : Below W.heap.size W W := Below.refl _ _
        obtain ⟨-, c1, c2, c3⟩ := HSW.out _ hb0
        clear hb0
        go_region_held3 (fun W' => Hid (Below W.heap.size W W') ∧ W'.cell? ⟨w.heap.size, 0, none⟩ = some (.slice fa f.length fc) ∧ W'.cell? ⟨w.heap.size, 1, none⟩ = some (.slice ta t.length tc) ∧ W'.cell? ⟨mb, 0, none⟩ = some (.slice vo G.length vc))
          (first | (go_split_ands; first | exact HSW.out _ (Hid.out (by assumption)) | exact HSW.out _ (by (repeat' (first | with_reducible exact Below.refl _ _ | with_reducible exact Hid.out (by assumption) | with_reducible refine Below.drew ?_ | with_reducible refine Below.setCell ?_ ?_ _ | with_reducible refine Below.alloc ?_ ?_ _ | with_reducible exact Nat.le_refl _ | (simp; done) | (simp; omega) | omega)))) | go_keep)
          (first
            | (go_at_call 34; go_split_ands; have HPRE := (by assumption : Hid (Below _ W _)); refine (CP.out _ HPRE.out).mono ?_; rintro e wf ⟨p, i, p', i', hs, rfl, hbf⟩; have HBF := hid (chain HPRE.out hbf); have hsz9 : W.heap.size ≤ wf.heap.size := HBF.out.size; clear HPRE; unfold spotV; have HSPT := hid hs; clear hs;
                (try (have hq9 : wf.heap[W.heap.size]? = some (.cells #[.int .i64 0, .int .i64 0] 67 (0, 0)) := (hbf.block W.heap.size (show W.heap.size < ((W.alloc (.cells #[.int .i64 0, .int .i64 0] 67)).alloc (.cells #[.int .i64 0, .int .i64 0] 67)).heap.size by first | (simp; done) | (simp; omega))).trans (al2 W (.cells #[.int .i64 0, .int .i64 0] 67) (.cells #[.int .i64 0, .int .i64 0] 67)); have hq8 : wf.heap[W.heap.size + 1]? = some (.cells #[.int .i64 0, .int .i64 0] 67 (0, 0)) := (hbf.block (W.heap.size + 1) (show W.heap.size + 1 < ((W.alloc (.cells #[.int .i64 0, .int .i64 0] 67)).alloc (.cells #[.int .i64 0, .int .i64 0] 67)).heap.size by first | (simp; done) | (simp; omega))).trans (heap_alloc2_new W (.cells #[.int .i64 0, .int .i64 0] 67) (.cells #[.int .i64 0, .int .i64 0] 67)); have HQ9 := hid hq9; have HQ8 := hid hq8; obtain ⟨z0, z1, z2, z3⟩ := two_cells hq9; obtain ⟨y0, y1, y2, y3⟩ := two_cells hq8; clear hq9 hq8));
                (try (have hq9 : wf.heap[W.heap.size]? = some (.cells #[.int .i64 0, .int .i64 0] 67 (0, 0)) := (hbf.block W.heap.size (show W.heap.size < (W.alloc _).heap.size by simp)).trans (heap_alloc_new W _); have HQ9 := hid hq9; obtain ⟨z0, z1, z2, z3⟩ := two_cells hq9; have hlt9 := lt_of_block hq9; have hne9 : ¬ (W.heap.size = wf.heap.size) := Nat.ne_of_lt hlt9; have z4 := fun o => two_cells ((Below.heap_alloc wf o _ hlt9).trans hq9); have z5 := fun o => (z4 o).1; have z6 := fun o => (z4 o).2.1; have z7 := fun o => (z4 o).2.2.1; have z8 := fun o => (z4 o).2.2.2; clear z4 hq9)); clear hbf))
        all_goals (go_wp2_with fail)
        all_goals go_meet
        all_goals refine ⟨p, i, p', i', _, _, rfl, rfl, HSPT.out, ?_, ?_, ?_⟩
        all_goals (first
          | (with_reducible exact al1 (by first | rfl | (simp; done) | (simp; omega)))
          | (with_reducible exact al2 _ _ _)
          | (with_reducible exact (Below.heap_alloc _ _ _ (by first | rfl | (simp; done) | (simp; omega))).trans (al1 (by first | rfl | (simp; done) | (simp; omega))))
          | (with_reducible exact two_set1 (two_set0 HQ9.out))
          | (with_reducible exact two_other (two_other (two_set1 (two_set0 HQ9.out)) (by omega)) (by omega))
          | (with_reducible exact two_set1 (two_set0 (two_other (two_other HQ9.out (by omega)) (by omega))))
          | (with_reducible exact (Below.heap_alloc _ _ _ (by first | rfl | (simp; done) | (simp; omega))).trans (two_set1 (two_set0 HQ9.out)))
          | (with_reducible exact two_set1 (two_set0 ((Below.heap_alloc _ _ _ (by first | rfl | (simp; done) | (simp; omega))).trans HQ9.out)))
          | (with_reducible exact two_set1 (two_set0 HQ8.out))
          | (with_reducible exact two_other (two_other (two_set1 (two_set0 HQ8.out)) (by omega)) (by omega))
          | (with_reducible exact two_set1 (two_set0 (two_other (two_other HQ8.out (by omega)) (by omega))))
          | (with_reducible exact (Below.heap_alloc _ _ _ (by first | rfl | (simp; done) | (simp; omega))).trans (two_set1 (two_set0 HQ8.out)))
          | (with_reducible exact two_set1 (two_set0 ((Below.heap_alloc _ _ _ (by first | rfl | (simp; done) | (simp; omega))).trans HQ8.out)))
          | (with_reducible exact two_other (two_other (al1 (by first | rfl | (simp; done) | (simp; omega))) (by omega)) (by omega))
          | ((repeat' (first | with_reducible exact Below.refl _ _ | with_reducible exact Hid.out (by assumption) | with_reducible refine Below.drew ?_ | with_reducible refine Below.setCell ?_ ?_ _ | with_reducible refine Below.alloc ?_ ?_ _ | with_reducible exact Nat.le_refl _ | (simp; done) | (simp; omega) | omega)); done))
      case rest =>
        obtain ⟨p, i, p', i', b1, b2, rfl, rfl, hsp, h1, h2, hbx⟩ := hcut
        have HPT := hid hsp
        have HBX := hid hbx
        have HBWc : Hid (Below w.heap.size w wc) := HBW.out.trans (hbx.mono HBW.out.size)
        obtain ⟨a1, a2, -, -⟩ := two_cells h1
        obtain ⟨d1, d2, -, -⟩ := two_cells h2
        have hle := hsp.le
        have hle' := hsp.le'
        rw [mls_len] at hle'
        have CC : Hid (Calls Try.prog 32 #[.pointer (some ⟨mb, 0, none⟩), .agg #[.int .i64 (p : Int), .int .i64 (i : Int)], .agg #[.int .i64 (p' : Int), .int .i64 (i' : Int)], .slice none 0 0] wc (ChgA base mb (.slice vo G.length vc) G (changeL (mls G) p i p' i' []) wc)) := by
          refine change_any base mb (.slice vo G.length vc) G p i p' i' none 0 [] wc (HMM.out.old HBWc.out) HF.out (Prs.nil _) (fun m hm => by cases hm) hle hle' (bound_of (Nat.le_trans hsp.le hsp.le') hsp.here hsp.none) (bound_of hsp.le' hsp.here' hsp.none') (by simp) (fun e9 => ?_) (fun e9 => ?_)
          · exact ⟨hsp.none (by rw [mls_len]; exact e9), by omega⟩
          · exact (hGne (List.eq_nil_of_length_eq_zero e9)).elim
        clear h1 h2 hsp hbx hle hle' CP HSW
        go_wp2_with (first | (go_at_call 32; refine CC.out.mono ?_))
        rintro e wz ⟨v', G', r, rfl, z1, z2, z3, z4, z5⟩
        have hbl : wz.heap[w.heap.size + 1]? = some (.cells #[.slice xa xs.length xc] 29 (0, 0)) := (z3.block _ (by have := HBX.out.size; omega) (fun hx => by have := HMX.out _ hx; omega)).trans ((HBX.out.block _ (by omega)).trans HBV.out)
        have q1 := cell_of0 hbl
        have hDz : wz.heap[D]? = some (.deferred (some [])) := (z3.block D (Nat.lt_of_lt_of_le (lt_of_block HK.out) HBX.out.size) (fun hx => by have := HMX.out _ hx; omega)).trans ((HBX.out.block D (lt_of_block HK.out)).trans HK.out)
        have hT : Turned base mb (.slice vo G.length vc) G ((mls G).flatten.filter fun m => !inSpan f t m.key) w wz v' G' := take_fin HF.out HPT.out HBWc.out z1 z2 z3 z4 z5
        have hrz : RdG wz ⟨xa, xc, xs⟩ := (HRD.out.old HBX.out).keep z3 (HOM.out _ (fun k hk => by have := HMX.out _ hk; omega))
        have hoff : OffG (MX mb v') ⟨xa, xc, xs⟩ := by
          have h1 : OffG (fun k => wc.heap.size ≤ k) ⟨xa, xc, xs⟩ := RdG.offnew (HRD.out.old HBX.out) (fun k hk => hk)
          have h2 : OffG (fun k => k < w.heap.size) ⟨xa, xc, xs⟩ := HOM.out _ (fun k hk => by omega)
          refine (h1.or h2).mono (fun k hk => ?_)
          rcases hk with e | e
          · exact .inr (by omega)
          · rcases z4 k e with e | e
            · exact .inr (HMX.out k (.inr e))
            · exact .inl e
        have HT9 := hid hT
        have HRZ := hid hrz
        have HOF := hid hoff
        have HDZ := hid hDz
        clear z1 z2 z3 z4 z5 hbl hT hrz hoff hDz
        go_wp2_with fail
        refine ⟨by simp, .inl ⟨_, _, rfl, run_takeDeferred HDZ.out, ?_⟩⟩
        refine ⟨_, results_tmp rfl _ _ _, xa, xc, xs, rfl, HS9.out, RdG.keep HRZ.out (hDk wz) HOD.out, HXN.out, HMN.out, fun h => (hne h).elim, fun _ => ⟨v', G', HT9.out.put (by omega) hmb HDZ.out rfl _, HOF.out⟩⟩
end Go.Proofs.Ytcgnghkjkdkmmaa
