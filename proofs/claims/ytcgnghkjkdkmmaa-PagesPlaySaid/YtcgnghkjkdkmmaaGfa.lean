/-
  PAGES: the iterator falling$1, with any yield.
-/
import Derived.Stop.RegionWithIn
import Derived.Test.YtcgnghkjkdkmmaaGbk
import Derived.Test.YtcgnghkjkdkmmaaGmk
set_option linter.unusedVariables false
namespace Go.Proofs.Ytcgnghkjkdkmmaa
open Go.RowKit Go.Shelf
attribute [local go_sem] Oper.semAt_some

theorem round_wide2 {n m l1 l2 l : Nat} {P : Program} {fn : FuncId} {tmps : Array Value} {assign body : Code} {W : World} {R : Ending → World → Prop} (h : RoundIn Fence.wide n P l fn tmps assign body W R) :
    RoundIn ((Fence.wide.inRound l1).inRound l2) m P l fn tmps assign body W R := ⟨h.1, fun c cs _ => h.2 c cs (room_wide _)⟩

theorem kf_below {B : Nat} {W W' : World} (h : Below W.heap.size W W') : KeepsFrom B W W' := ⟨h.size, fun k o _ hk _ => (h.block k (lt_of_block hk)).trans hk⟩

theorem cell_of0 {W : World} {b : Nat} {v : Value} {t : TypeId} (h : W.heap[b]? = some (.cells #[v] t (0, 0))) : W.cell? ⟨b, 0, none⟩ = some v := by simp [World.cell?, h]

/-- The first k pages' pairs, each page turned. -/
def turnT (GR : List Pg) (k : Nat) : List Lp := ((GR.take k).map fun g => g.M.reverse).flatten
theorem turnT_all (G : List Pg) : turnT G.reverse G.length = (mls G).flatten.reverse := by
  unfold turnT mls
  rw [List.take_of_length_le (by simp), List.reverse_flatten]
  simp [List.map_reverse, Function.comp_def]
theorem turnT_succ {GR : List Pg} {k : Nat} {g : Pg} (h : GR[k]? = some g) : turnT GR (k + 1) = turnT GR k ++ g.M.reverse := by
  unfold turnT
  rw [List.take_add_one, h]
  simp
theorem turnT_split {GR : List Pg} {k : Nat} {g : Pg} (h : GR[k]? = some g) : ∃ r, turnT GR GR.length = turnT GR k ++ (g.M.reverse ++ r) := by
  refine ⟨((GR.drop (k + 1)).map fun g => g.M.reverse).flatten, ?_⟩
  unfold turnT
  have hd : GR = GR.take k ++ g :: GR.drop (k + 1) := by
    have hlt := (List.getElem?_eq_some_iff.1 h).1
    conv => lhs; rw [← List.take_append_drop k GR, List.drop_eq_getElem_cons hlt]
    rw [(List.getElem?_eq_some_iff.1 h).2]
  rw [List.take_length]
  conv => lhs; rw [hd]
  simp

theorem kpF_own {bl n0 B : Nat} {β : Type} {w1 : World} (hn : n0 ≤ B) (hw : n0 ≤ w1.heap.size) : OwnFrom B (fun (_ : β) W => KpF bl n0 w1 W) := fun s X Y row hs hg hr =>
  hs.trans ⟨KpX.grown hg (Nat.le_trans hw hs.size) (fun k e => .inl (Nat.le_trans hn (hr k e).1)), fun k c e fr h1 _ _ _ _ => heap_kept hg h1 (fun e9 => by
    obtain ⟨_, o, ho, hc⟩ := hr k e9.symm
    rw [h1] at ho
    cases ho
    cases hc)⟩

set_option maxRecDepth 100000 in
set_option maxHeartbeats 16000000 in
theorem falling1_in (n : Nat) (hn : 8 ≤ n) (l Bn bl n0 : Nat) (xv : Value) (G : List Pg) (J Jx : List Lp → World → Prop) (W0 : World) (hg8 : ∀ g ∈ G, g.M.length ≤ 1000000) (hgl : G.length ≤ 1000000) (hb8 : ∀ g ∈ G, ∀ m ∈ g.M, m.key.length ≤ 140737488355328 ∧ m.val.length ≤ 140737488355328)
    (hn0 : n0 ≤ W0.heap.size) (hJ : OwnFrom W0.heap.size J) (hJx : OwnFrom W0.heap.size Jx)
    (hY : ∀ pre x W1, J pre W1 → RxP n0 (mls G).flatten.reverse pre x W1 → W0.heap.size ≤ W1.heap.size → YieldAt Fence.wide (n - 1) Try.prog l #[pv x] W1 fun e W' =>
      (e = .returned (.bool true) ∧ J (pre ++ [x]) W' ∧ KpF bl n0 W1 W' ∧ KeepsFrom W0.heap.size W1 W') ∨ (e = .returned (.bool false) ∧ Jx (pre ++ [x]) W' ∧ KeepsFrom W0.heap.size W1 W'))
    (hP : ∀ W, KpF bl n0 W0 W → W.cell? ⟨Bn, 0, none⟩ = some xv ∧ Pgs W xv G) (h0 : J [] W0) :
    CallsIn Fence.wide n Try.prog 51 #[.func (.yield l) #[] #[], .pointer (some ⟨Bn, 0, none⟩)] W0 fun e W' => (∃ v, e = .returned v) ∧
      ((∃ xs : List Lp, xs.map lg = (mls G).flatten.reverse.map lg ∧ J xs W') ∨ (∃ pre : List Lp, pre.map lg <+: (mls G).flatten.reverse.map lg ∧ Jx pre W')) := by
  rw [← turnT_all] at hY ⊢
  refine callsIn_of_wp_marks Try.func51 rfl trivial ?_ rfl
  simp only [Try.ntmps51, List.size_toArray, List.length_cons, List.length_nil, Nat.reduceAdd, Nat.reduceSub, Array.replicate_succ, Array.replicate_zero, List.push_toArray, List.append_toArray, List.nil_append, List.cons_append]
  obtain ⟨xa, xc, rfl, -⟩ := (hP W0 (KpF.refl _ _ _)).2.form
  have hn1 : 1 ≤ n := by omega
  have hn3 : 1 ≤ n - 1 - 1 := by omega
  have hn5 : 1 ≤ n - 1 - 1 - 1 - 1 := by omega
  have HP := hid hP
  have HY := hid hY
  have HB8 := hid hb8
  have HG8 := hid hg8
  have HJ0 := hid h0
  have hk1 : KpF bl n0 W0 (W0.alloc (.cells #[.func (.yield l) #[] #[]] 87)) := KpF.of ((Below.refl _ _).alloc (Nat.le_refl _) _) hn0
  have c0 := (hP _ hk1).1
  clear hP hY hb8 hg8 h0
  gi_wp2_with (refine ⟨trivial, ?_⟩; gi_at_call 52; refine (callsIn_wide.2 (backG_any _ _ _ _)).mono ?_; rintro e w' ⟨rfl, rfl⟩)
  have hbox : (W0.alloc (.cells #[.func (.yield l) #[] #[]] 87)).heap[W0.heap.size]? = some (.cells #[.func (.yield l) #[] #[]] 87 (0, 0)) := heap_alloc_new _ _
  have hbx0 := (Below.heap_alloc (W0.alloc (.cells #[.func (.yield l) #[] #[]] 87)) (.cells #[.slice xa G.length xc] 63) _ (lt_of_block hbox)).trans hbox
  have hbx1 : ((W0.alloc (.cells #[.func (.yield l) #[] #[]] 87)).alloc (.cells #[.slice xa G.length xc] 63)).heap[W0.heap.size + 1]? = some (.cells #[.slice xa G.length xc] 63 (0, 0)) := heap_alloc2_new _ _ _
  have hbel : Below W0.heap.size W0 ((W0.alloc (.cells #[.func (.yield l) #[] #[]] 87)).alloc (.cells #[.slice xa G.length xc] 63)) := ((Below.refl _ _).alloc (Nat.le_refl _) _).alloc (by simp) _
  have hsz1 : ((W0.alloc (.cells #[.func (.yield l) #[] #[]] 87)).alloc (.cells #[.slice xa G.length xc] 63)).heap.size = W0.heap.size + 2 := by simp
  clear hk1 c0 hbox
  generalize (W0.alloc (.cells #[.func (.yield l) #[] #[]] 87)).alloc (.cells #[.slice xa G.length xc] 63) = w1 at *
  have HX0 := hid hbx0
  have HX1 := hid hbx1
  have HL1 := hid hbel
  have hn01 : n0 ≤ w1.heap.size := by omega
  have HK1 : Hid (KpF bl n0 W0 w1) := KpF.of hbel hn0
  have HJ := hid hJ
  have HJx := hid hJx
  have hJ1 : Hid (J [] w1) := own_below hJ HJ0.out hbel
  have upJ : ∀ {Z : List Lp → World → Prop} {B : Nat}, OwnFrom W0.heap.size Z → W0.heap.size ≤ B → OwnFrom B Z := fun h hB s A B' row hs hg' hr => h s A B' row hs hg' (fun r e => ⟨Nat.le_trans hB (hr r e).1, (hr r e).2⟩)
  clear hbx0 hbx1 hbel hJ hJx HJ0
  gi_wp2
  refine range_outer rfl hn1 (gf := 65) (lb := #[.pointer (some ⟨W0.heap.size + 1, 0, none⟩)]) ?hg trivial (enters_of Try.func65 (by kernel_rfl) rfl)
    (encs := fun x : Nat × Pg => #[.int .i64 (x.1 : Int), sv x.2]) (Kp := KpF bl n0) (Rx := RxB G) (S := fun xs => xs.map (·.2) = G.reverse) (Sp := fun pre => pre.map (·.2) <+: G.reverse) (w0 := w1)
    ?hseq (fun h k => h.trans k) (fun W W' l hl ht => KpF.turn ht (by omega)) (Below.refl _ _) (fun _ => rfl)
    (fun pre W => ∃ ps : List Lp, ps.map lg = (turnT G.reverse pre.length).map lg ∧ J ps W ∧ KpF bl n0 w1 W)
    (fun c pre W => c = .ret ∧ ∃ ps : List Lp, ps.map lg <+: (turnT G.reverse G.length).map lg ∧ Jx ps W)
    ?hI ?hIx ?h0 ?round ?done ?stop
  case hg => rfl
  case hseq =>
    intro l J Jx W hW hJo hJxo hY h0
    refine backG_in (n - 1) (by omega) l (W0.heap.size + 1) bl n0 (.slice xa G.length xc) G J Jx W hgl (Nat.le_trans hn01 hW.size) hY (fun W' hk => ?_) h0
    have hk2 : KpF bl n0 w1 W' := (KpF.of hW hn01).trans hk
    refine ⟨?_, (HP.out _ (HK1.out.trans hk2)).2⟩
    exact cell_of0 (hk2.kinds _ _ _ _ HX1.out (by decide) (by decide) (by decide) (by decide))
  case hI =>
    intro pre W W' row hs hg hr
    obtain ⟨ps, h1, h2, h3⟩ := hs
    exact ⟨ps, h1, upJ HJ.out (by omega) ps W W' row h2 hg hr, kpF_own (β := Unit) hn01 hn01 () W W' row h3 hg hr⟩
  case hIx =>
    intro c pre W W' row hs hg hr
    obtain ⟨hc, ps, h1, h2⟩ := hs
    exact ⟨hc, ps, h1, upJ HJx.out (by omega) ps W W' row h2 hg hr⟩
  case h0 => exact ⟨[], by simp [turnT], hJ1.out, KpF.refl _ _ _⟩
  case done =>
    rintro D xs W hD hS ⟨ps, h1, h2, h3⟩ hK
    have hlen : xs.length = G.length := by have := congrArg List.length hS; simpa using this
    gi_wp2
    refine ⟨by simp, .inl ⟨_, _, rfl, run_takeDeferred hK, ?_⟩⟩
    refine ⟨_, results_none rfl _ _ _, ⟨_, rfl⟩, .inl ⟨ps, by rw [h1, hlen], ?_⟩⟩
    exact HJ.out.putObj _ h2 (by omega) hK rfl
  case stop =>
    rintro D c pre W hD hS ⟨rfl, ps, h1, h2⟩ hK
    gi_wp2
    refine ⟨by simp, .inl ⟨_, _, rfl, run_takeDeferred hK, ?_⟩⟩
    refine ⟨_, results_none rfl _ _ _, ⟨_, rfl⟩, .inr ⟨ps, h1, ?_⟩⟩
    exact HJx.out.putObj _ h2 (by omega) hK rfl
  case round =>
    rintro l1 pre ⟨gi, ga, gc, gM⟩ W hl1 hr1 ⟨ps, e1, hj, hk⟩ hx
    have HX : Hid (G.reverse[pre.length]? = some ⟨ga, gc, gM⟩) := hx
    have hgm : (⟨ga, gc, gM⟩ : Pg) ∈ G := List.mem_reverse.1 (List.mem_of_getElem? hx)
    have HRM : Hid (∀ W', KpF bl n0 w1 W' → Prs W' (.slice ga gM.length gc) gM) := fun W' h => (HP.out _ (HK1.out.trans h)).2.2 _ hgm
    have hm8 : gM.length ≤ 1000000 := HG8.out _ hgm
    have HB : Hid (∀ m ∈ gM, m.key.length ≤ 140737488355328 ∧ m.val.length ≤ 140737488355328) := HB8.out _ hgm
    have HE1 := hid e1
    have HJ1 := hid hj
    have HKW := hid hk
    obtain ⟨r1, hr1⟩ := hr1
    clear e1 hj hk hx hr1
    unfold sv
    gi_wp2
    refine ⟨KeepsFrom.refl _ _, KpF.refl _ _ _, fun Wb hT => ?_⟩
    obtain ⟨r2, hr2⟩ := hT.now
    have HKb : Hid (KpF bl n0 w1 Wb) := HKW.out.trans (KpF.turn hT (by omega))
    have HJb : Hid (J ps Wb) := own_turn HJ.out HJ1.out hT (by omega)
    clear hT HJ1 HKW
    gi_wp2_with (refine ⟨trivial, ?_⟩; gi_at_call 53; refine (CallsIn.inRound l1 (callsIn_wide.2 (backP_any _ _ _ _))).mono ?_; rintro e w' ⟨rfl, rfl⟩)
    have hb2 : Below Wb.heap.size Wb (Wb.alloc (.cells #[.slice ga gM.length gc] 29)) := (Below.refl _ _).alloc (Nat.le_refl _) _
    have hx2 : (Wb.alloc (.cells #[.slice ga gM.length gc] 29)).heap[Wb.heap.size]? = some (.cells #[.slice ga gM.length gc] 29 (0, 0)) := heap_alloc_new _ _
    have hl2 : (Wb.alloc (.cells #[.slice ga gM.length gc] 29)).heap[l1]? = some (.loop r2) := (Below.heap_alloc _ _ _ (lt_of_block hr2)).trans hr2
    generalize Wb.alloc (.cells #[.slice ga gM.length gc] 29) = w2 at *
    have hnb : n0 ≤ Wb.heap.size := Nat.le_trans hn01 HKb.out.size
    have hn2 : n0 ≤ w2.heap.size := Nat.le_trans hnb hb2.size
    have HK2 : Hid (KpF bl n0 w1 w2) := HKb.out.trans (KpF.of hb2 hnb)
    have hws : w1.heap.size ≤ w2.heap.size := HK2.out.size
    have HX2 := hid hx2
    have HJ2 : Hid (J ps w2) := own_below HJ.out HJb.out hb2
    refine range_inner (F := Fence.wide.inRound l1) rfl hl2 hn3 (gf := 66) (lb := #[.pointer (some ⟨Wb.heap.size, 0, none⟩)]) ?hg2 trivial (enters_of Try.func66 (by kernel_rfl) rfl)
      (encs := fun x : Nat × Lp => #[.int .i64 (x.1 : Int), pv x.2]) (Kp := KpF bl n0) (Rx := RxB gM) (S := fun xs => xs.map (·.2) = gM.reverse) (Sp := fun pre => pre.map (·.2) <+: gM.reverse) (w0 := w2)
      ?hseq2 (fun h k => h.trans k) (fun W W' l hl ht => KpF.turn ht (by omega)) (Below.refl _ _) (fun _ => rfl)
      (fun q W => ∃ ps : List Lp, ps.map lg = (turnT G.reverse pre.length ++ gM.reverse.take q.length).map lg ∧ J ps W ∧ KpF bl n0 Wb W ∧ KeepsFrom w1.heap.size Wb W)
      (fun c q W => c = .ret ∧ (∃ ps : List Lp, ps.map lg <+: (turnT G.reverse G.length).map lg ∧ Jx ps W) ∧ KeepsFrom w1.heap.size Wb W)
      ?hI2 ?hIx2 ?h02 ?round2 ?done2 ?stop2
    case hg2 => rfl
    case hseq2 =>
      intro l J Jx W hW hJo hJxo hY h0
      refine CallsIn.inRound l1 (backP_in (n - 1 - 1 - 1) (by omega) l Wb.heap.size bl n0 (.slice ga gM.length gc) gM J Jx W (by omega) (Nat.le_trans hn2 hW.size) hY (fun W' hk => ?_) h0)
      have hk2 : KpF bl n0 w2 W' := (KpF.of hW hn2).trans hk
      refine ⟨?_, HRM.out _ (HK2.out.trans hk2)⟩
      exact cell_of0 (hk2.kinds _ _ _ _ HX2.out (by decide) (by decide) (by decide) (by decide))
    case hI2 =>
      intro q W W' row hs hg hr
      obtain ⟨ps, h1, h2, h3, h4⟩ := hs
      exact ⟨ps, h1, upJ HJ.out (by omega) ps W W' row h2 hg hr, kpF_own (β := Unit) hn2 hnb () W W' row h3 hg hr, ownFrom_keepsFrom (β := Unit) hb2.size () W W' row h4 hg hr⟩
    case hIx2 =>
      intro c q W W' row hs hg hr
      obtain ⟨hc, ⟨ps, h1, h2⟩, h4⟩ := hs
      exact ⟨hc, ⟨ps, h1, upJ HJx.out (by omega) ps W W' row h2 hg hr⟩, ownFrom_keepsFrom (β := Unit) hb2.size () W W' row h4 hg hr⟩
    case h02 => exact ⟨ps, by simpa using HE1.out, HJ2.out, KpF.of hb2 hnb, kf_below hb2⟩
    case done2 =>
      rintro xs W hW hS ⟨ps', h1, h2, h3, h4⟩
      have hlen : xs.length = gM.length := by have := congrArg List.length hS; simpa using this
      gi_wp2
      refine ⟨h4, h3, ps', ?_, h2, HKb.out.trans h3⟩
      rw [h1, hlen, List.length_append, List.length_singleton, turnT_succ HX.out, List.take_of_length_le (by simp)]
    case stop2 =>
      rintro c q W hS ⟨rfl, hps, h4⟩
      gi_wp2
      exact ⟨h4, rfl, hps⟩
    case round2 =>
      rintro l2 q ⟨qi, m⟩ W3 hl3 ⟨r3, -⟩ ⟨ps3, e3, hj3, hk3, hkf3⟩ hx3
      have HX3 : Hid (gM.reverse[q.length]? = some m) := hx3
      have hmm : m ∈ gM := List.mem_reverse.1 (List.mem_of_getElem? hx3)
      have HKW3 : Hid (KpF bl n0 w1 W3) := HKb.out.trans hk3
      have hn3' : n0 ≤ W3.heap.size := Nat.le_trans hnb hk3.size
      have hb8 := HB.out m hmm
      have HK3 := hid hk3
      have HKF3 := hid hkf3
      have HJ3 := hid hj3
      have HE3 := hid e3
      have hrm := (HRM.out _ HKW3.out).2 m hmm
      have o1 := one_rd hrm.1
      have o2 := one_rd hrm.2
      have HX2b := HX2.out
      clear hk3 hkf3 hj3 e3 hx3 hrm
      unfold pv
      gi_wp2
      have hbA : Below W3.heap.size W3 (W3.alloc (.cells #[.slice m.ka m.key.length m.kc, .slice m.va m.val.length m.vc, .int .i64 m.ver] 31)) := (Below.refl _ _).alloc (Nat.le_refl _) _
      have hxA : (W3.alloc (.cells #[.slice m.ka m.key.length m.kc, .slice m.va m.val.length m.vc, .int .i64 m.ver] 31)).heap[W3.heap.size]? = some (.cells #[.slice m.ka m.key.length m.kc, .slice m.va m.val.length m.vc, .int .i64 m.ver] 31 (0, 0)) := heap_alloc_new _ _
      refine ⟨kf_below hbA, KpF.of hbA hn3', fun W4 hT4 => ?_⟩
      generalize W3.alloc (.cells #[.slice m.ka m.key.length m.kc, .slice m.va m.val.length m.vc, .int .i64 m.ver] 31) = WA at *
      have hsA : n0 ≤ WA.heap.size := Nat.le_trans hn3' hbA.size
      have HK4 : Hid (KpF bl n0 Wb W4) := HK3.out.trans ((KpF.of hbA hn3').trans (KpF.turn hT4 (by omega)))
      have HKW4 : Hid (KpF bl n0 w1 W4) := HKb.out.trans HK4.out
      have HKF4 : Hid (KeepsFrom w1.heap.size Wb W4) := by
        refine ⟨Nat.le_trans (Nat.le_trans HKF3.out.size hbA.size) hT4.grown.size, fun k o g1 g2 g3 => ?_⟩
        have hlt := lt_of_block g2
        have := hb2.size
        exact heap_kept hT4.grown ((HKF3.out.trans (kf_below hbA)).same k o g1 g2 g3) (fun e9 => by cases e9; omega)
      have HJ4 : Hid (J ps3 W4) := own_turn HJ.out (own_below HJ.out HJ3.out hbA) hT4 (by omega)
      have h4x : W4.heap[W3.heap.size]? = some (.cells #[.slice m.ka m.key.length m.kc, .slice m.va m.val.length m.vc, .int .i64 m.ver] 31 (0, 0)) := heap_kept hT4.grown hxA (fun e9 => by
        cases e9
        obtain ⟨o, ho, hc⟩ := hT4.old
        rw [hxA] at ho
        cases ho
        cases hc)
      have H4X := hid h4x
      have H4Y : Hid (W4.heap[W0.heap.size]? = some (.cells #[.func (.yield l) #[] #[]] 87 (0, 0))) := HKW4.out.kinds _ _ _ _ HX0.out (by decide) (by decide) (by decide) (by decide)
      clear hT4 hxA hbA h4x
      have CC : Hid (∀ nn W, Below W4.heap.size W4 W → CallsIn ((Fence.wide.inRound l1).inRound l2) nn Try.prog 37 #[.agg #[.slice m.ka m.key.length m.kc, .slice m.va m.val.length m.vc, .int .i64 m.ver]] W (CopyA m W)) := fun nn W h =>
        CallsIn.inRound l2 (CallsIn.inRound l1 (callsIn_wide.2 (copied_any m W ((HRM.out _ (HKW4.out.trans (KpF.of h (Nat.le_trans hn01 HKW4.out.size)))).2 m hmm) hb8.1 hb8.2)))
      have hcells := fun (W : World) (h : Below W4.heap.size W4 W) => three_cells ((h.block _ (lt_of_block H4X.out)).trans H4X.out)
      have hyc := fun (W : World) (h : Below W4.heap.size W4 W) => cell_of0 ((h.block _ (lt_of_block H4Y.out)).trans H4Y.out)
      have HC := hid hcells
      have HYC := hid hyc
      obtain ⟨p0, p1, p2, -, -, -⟩ := hcells W4 (Below.refl _ _)
      have y0 := hyc W4 (Below.refl _ _)
      have HYD : Hid (∀ m' w', Below W4.heap.size W4 w' → Mine W4.heap.size w' m' → Alike m' m → ∃ fn tmps assign body, (Instr.yield l #[.agg #[.slice m'.ka m'.key.length m'.kc, .slice m'.va m'.val.length m'.vc, .int .i64 m'.ver]]).run Try.prog w' = .ok (.round l fn tmps assign body) w' ∧
          ∀ nn, RoundIn ((Fence.wide.inRound l1).inRound l2) nn Try.prog l fn tmps assign body w' fun e W' => ∃ b, e = .returned (.bool b) ∧ Hid (b = true → (J (ps3 ++ [m']) W' ∧ KpF bl n0 w' W' ∧ KeepsFrom W0.heap.size w' W')) ∧ Hid (b = false → (Jx (ps3 ++ [m']) W' ∧ KeepsFrom W0.heap.size w' W'))) := by
        intro m' w' g1 g2 g3
        have hlen : ps3.length = (turnT G.reverse pre.length).length + q.length := by
          have hq := (List.getElem?_eq_some_iff.1 HX3.out).1
          have := congrArg List.length HE3.out
          simp only [List.length_map, List.length_append, List.length_take] at this
          omega
        have hat : (turnT G.reverse G.length)[ps3.length]? = some m := by
          obtain ⟨r, hr⟩ := turnT_split HX.out
          rw [List.length_reverse] at hr
          rw [hr, hlen, List.getElem?_append_right (by omega), Nat.add_sub_cancel_left, List.getElem?_append_left (List.getElem?_eq_some_iff.1 HX3.out).1]
          exact HX3.out
        have hsz : W0.heap.size ≤ w'.heap.size := Nat.le_trans (by have := HKW4.out.size; omega) g1.size
        obtain ⟨fn, tmps, assign, body, hy, hR⟩ := HY.out ps3 m' w' (own_below HJ.out HJ4.out g1) ⟨g2.base (Nat.le_trans hn01 HKW4.out.size), m, hat, g3⟩ hsz
        refine ⟨fn, tmps, assign, body, hy, fun nn => (round_wide2 hR).mono ?_⟩
        rintro e W' (⟨rfl, k1, k2, k3⟩ | ⟨rfl, k1, k2⟩)
        · exact ⟨true, rfl, (fun _ => ⟨k1, k2, k3⟩), (fun h => by cases h)⟩
        · exact ⟨false, rfl, (fun h => by cases h), (fun _ => ⟨k1, k2⟩)⟩
      clear hcells hyc
      gi_wp2
      gi_region_with (first
        | (refine ⟨trivial, ?_⟩; gi_at_call 37; refine (CC.out _ _ ?_).mono ?_; exact (Below.refl _ _).drew; rintro e w' ⟨m', hal, rfl, hmi, hbk⟩; have HBK : Hid (Below W4.heap.size W4 w') := ((Below.refl _ _).drew).trans hbk; have HAL := hid hal; have HMI : Hid (Mine W4.heap.size w' m') := hmi; have y1 := HYC.out w' HBK.out; obtain ⟨fn, tmps, assign, body, hy, hR⟩ := HYD.out m' w' HBK.out HMI.out HAL.out; have HR := hid hR; unfold pv; clear hal hmi hbk hR)
        | (with_reducible refine (HR.out _).mono ?_; rintro e W5 ⟨b, rfl, hb1, hb2⟩))
      all_goals (
        have hpre : ∀ ps : List Lp, ps = ps3 ++ [m'] → ps.map lg = (turnT G.reverse pre.length ++ gM.reverse.take (q.length + 1)).map lg := fun ps h => by
          rw [h, List.map_append, HE3.out, List.take_add_one, HX3.out]
          simp [alike_lg HAL.out]
        have HPRE := hid hpre
        clear hpre
        cases b
        · have hf := hb2.out rfl
          have HF := hid hf
          clear hf hb1 hb2
          gi_wp2
          refine ⟨(kf_below HBK.out).trans (kf_mono HF.out.2 (by omega)), rfl, ⟨_, ?_, HF.out.1⟩, (HKF4.out.trans (kf_below HBK.out)).trans (kf_mono HF.out.2 (by omega))⟩
          rw [HPRE.out _ rfl]
          obtain ⟨r, hr⟩ := turnT_split HX.out
          rw [List.length_reverse] at hr
          rw [hr]
          refine ⟨((gM.reverse.drop (q.length + 1)) ++ r).map lg, ?_⟩
          rw [← List.map_append, ← List.append_assoc, List.append_assoc (turnT G.reverse pre.length), List.take_append_drop, List.append_assoc]
        · have hf := hb1.out rfl
          have HF := hid hf
          clear hf hb1 hb2
          gi_wp2
          exact ⟨(kf_below HBK.out).trans (kf_mono HF.out.2.2 (by omega)), (KpF.of HBK.out (Nat.le_trans hn01 HKW4.out.size)).trans HF.out.2.1, _, by rw [HPRE.out _ rfl]; simp, HF.out.1, HK4.out.trans ((KpF.of HBK.out (Nat.le_trans hn01 HKW4.out.size)).trans HF.out.2.1), (HKF4.out.trans (kf_below HBK.out)).trans (kf_mono HF.out.2.2 (by omega))⟩)
end Go.Proofs.Ytcgnghkjkdkmmaa
