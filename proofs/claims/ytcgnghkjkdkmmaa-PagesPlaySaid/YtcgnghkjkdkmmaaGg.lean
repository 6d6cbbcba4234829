/-
  PAGES: Get.
-/
import Derived.Test.YtcgnghkjkdkmmaaGsc
import Derived.Test.YtcgnghkjkdkmmaaGit
set_option linter.unusedVariables false
namespace Go.Proofs.Ytcgnghkjkdkmmaa
open Go.RowKit Go.Shelf

theorem own_set9 {w : World} {base : Nat} {e : TypeId} {size : Nat} {v : Value} {n : Nat} {xs : List Value} (h : w.ownsRow base e size v n xs) {r : Nat} (hr : r < base) (k : Nat) (x : Value) : (w.setCell ⟨r, k, none⟩ x).ownsRow base e size v n xs := by
  obtain ⟨q1, q2⟩ := h
  rcases q2 with q2 | ⟨g, cap, cur, rfl, hb, hg, r'⟩
  · exact ⟨q1, .inl q2⟩
  · exact ⟨q1, .inr ⟨g, cap, cur, rfl, hb, two_other hg (by omega), r'⟩⟩
theorem Mine.set {base : Nat} {w : World} {m : Lp} (h : Mine base w m) {r : Nat} (hr : r < base) (k : Nat) (x : Value) : Mine base (w.setCell ⟨r, k, none⟩ x) m := ⟨own_set9 h.k hr k x, own_set9 h.v hr k x, h.apart⟩

/-- What Get gives. -/
def GetA (G : List Pg) (key : List UInt8) (w : World) (e : Ending) (w' : World) : Prop :=
  (∃ m m' : Lp, m ∈ (mls G).flatten ∧ m.key = key ∧ Alike m' m ∧ Mine w.heap.size w' m' ∧ e = .returned (.tuple #[pv m', .bool true]) ∧ Below w.heap.size w w') ∨
  ((∀ m ∈ (mls G).flatten, m.key ≠ key) ∧ e = .returned (.tuple #[.agg #[.slice none 0 0, .slice none 0 0, .int .i64 0], .bool false]) ∧ Below w.heap.size w w')

/-- What Get holds on its way. -/
structure K3 (r o7 : Nat) (p i : Value) (w W : World) : Prop where
  below : Below r w W
  seven : W.heap[o7]? = some (.cells #[p, i] 67 (0, 0))
  three : ∃ a b c, W.heap[r]? = some (.cells #[a, b, c] 31 (0, 0))

theorem K3.drew {r o7 p i w W} (h : K3 r o7 p i w W) : K3 r o7 p i w W.drew := ⟨Below.drew h.below, h.seven, h.three⟩
theorem K3.call {r o7 p i w W W'} (h : K3 r o7 p i w W) (hb : Below W.heap.size W W') : K3 r o7 p i w W' := by
  obtain ⟨a, b, c, hu⟩ := h.three
  exact ⟨h.below.trans (hb.mono (Nat.le_of_lt (lt_of_block hu))), (hb.block _ (lt_of_block h.seven)).trans h.seven, a, b, c, (hb.block _ (lt_of_block hu)).trans hu⟩
theorem K3.lt {r o7 p i w W} (h : K3 r o7 p i w W) : r < W.heap.size := by
  obtain ⟨a, b, c, hu⟩ := h.three
  exact lt_of_block hu
theorem K3.cells {r o7 p i w W} (h : K3 r o7 p i w W) : W.cell? ⟨r, 0, none⟩ = some (valAt W ⟨r, 0, none⟩) ∧ W.cell? ⟨r, 1, none⟩ = some (valAt W ⟨r, 1, none⟩) ∧ W.cell? ⟨r, 2, none⟩ = some (valAt W ⟨r, 2, none⟩) ∧ W.frozen? ⟨r, 0, none⟩ = false ∧ W.frozen? ⟨r, 1, none⟩ = false ∧ W.frozen? ⟨r, 2, none⟩ = false ∧ W.cell? ⟨o7, 0, none⟩ = some p ∧ W.cell? ⟨o7, 1, none⟩ = some i := by
  obtain ⟨a, b, c, hu⟩ := h.three
  obtain ⟨a1, a2, a3, a4, a5, a6⟩ := three_cells hu
  obtain ⟨b1, b2, -, -⟩ := two_cells h.seven
  exact ⟨valAt_some a1, valAt_some a2, valAt_some a3, a4, a5, a6, b1, b2⟩
theorem K3.set {r o7 p i w W} (h : K3 r o7 p i w W) (hne : o7 ≠ r) (x y z : Value) : K3 r o7 p i w (((W.setCell ⟨r, 0, none⟩ x).setCell ⟨r, 1, none⟩ y).setCell ⟨r, 2, none⟩ z) := by
  obtain ⟨a, b, c, hu⟩ := h.three
  exact ⟨((h.below.setCell (p := ⟨r, 0, none⟩) (Nat.le_refl _) _).setCell (p := ⟨r, 1, none⟩) (Nat.le_refl _) _).setCell (p := ⟨r, 2, none⟩) (Nat.le_refl _) _, two_other (two_other (two_other h.seven hne) hne) hne, x, y, z, three_set hu⟩

set_option maxHeartbeats 8000000 in
set_option maxRecDepth 100000 in
theorem get_any (pv0 y : Value) (G : List Pg) (key : List UInt8) (w : World) (hM : MapR w pv0 G) (hF : Fit G) (hy : Rd w y key) (hb8 : ∀ g ∈ G, ∀ m ∈ g.M, m.key.length ≤ 140737488355328 ∧ m.val.length ≤ 140737488355328) :
    Calls Try.prog 24 #[pv0, y] w (GetA G key w) := by
  have hyy := hy
  obtain ⟨ya, yc, rfl, -⟩ := hyy
  obtain ⟨ao, c, hpg, hall⟩ := all_val pv0 G w hM
  have HF := hid hF
  have HY := hid hy
  have HPG := hid hpg
  have HB8 := hid hb8
  have HB0 : Hid (Below w.heap.size w (w.alloc (.cells #[.slice none 0 0, .slice none 0 0, .int .i64 0] 31))) := (Below.refl _ _).alloc (Nat.le_refl _) _
  have H4 : Hid ((w.alloc (.cells #[.slice none 0 0, .slice none 0 0, .int .i64 0] 31)).heap[w.heap.size]? = some (.cells #[.slice none 0 0, .slice none 0 0, .int .i64 0] 31 (0, 0))) := heap_alloc_new _ _
  have CA := hid (hall _ HB0.out)
  have CF : Hid (Calls Try.prog 30 #[.slice ao G.length c, .slice ya key.length yc] (w.alloc (.cells #[.slice none 0 0, .slice none 0 0, .int .i64 0] 31)) (FindA G key (w.alloc (.cells #[.slice none 0 0, .slice none 0 0, .int .i64 0] 31)))) := find_anyG _ _ G key _ (HPG.out.old HB0.out) (HY.out.old HB0.out) HF.out.ord
  clear hM hF hy hpg hall hb8
  go_enter Try.func24, Try.ntmps24
  go_wp2_with (first
    | (go_at_call 31; refine CA.out.mono ?_; rintro e wa ⟨rfl, rfl⟩)
    | (go_at_call 30; refine CF.out.mono ?_))
  rintro e wf ⟨p, i, hsp, rfl, hbf⟩
  unfold spotV
  have HSP := hid hsp
  have HANY := hid (isAt_any hsp HF.out.srt)
  have HBF := hid hbf
  have H4f := hid ((hbf.block _ (lt_of_block H4.out)).trans H4.out)
  have HBX : Hid (Below w.heap.size w (wf.alloc (.cells #[.int .i64 (p : Int), .int .i64 (i : Int)] 67))) := (HB0.out.trans (hbf.mono HB0.out.size)).alloc (Nat.le_trans HB0.out.size hbf.size) _
  have H4x : Hid ((wf.alloc (.cells #[.int .i64 (p : Int), .int .i64 (i : Int)] 67)).heap[w.heap.size]? = some (.cells #[.slice none 0 0, .slice none 0 0, .int .i64 0] 31 (0, 0))) := (Below.heap_alloc _ _ _ (lt_of_block H4f.out)).trans H4f.out
  have hlt7 := lt_of_block H4f.out
  have HLT7 := hid hlt7
  have H7x : Hid ((wf.alloc (.cells #[.int .i64 (p : Int), .int .i64 (i : Int)] 67)).heap[wf.heap.size]? = some (.cells #[.int .i64 (p : Int), .int .i64 (i : Int)] 67 (0, 0))) := heap_alloc_new _ _
  clear hsp hbf hlt7
  cases hat : isAt (mls G) key p i with
  | false =>
    obtain ⟨z0, z1, z2, z3, z4, z5⟩ := three_cells H4x.out
    go_wp2_with fail
    refine bodyPost_ret (results_cell2 rfl _ _ w.heap.size 31 _ (0, 0) _ rfl (three_set H4x.out) Try.underlying31 rfl (by kernel_rfl)) rfl ?_
    refine .inr ⟨fun m hm e9 => ?_, rfl, ((HBX.out.setCell (p := ⟨w.heap.size, 0, none⟩) (Nat.le_refl _) _).setCell (p := ⟨w.heap.size, 1, none⟩) (Nat.le_refl _) _).setCell (p := ⟨w.heap.size, 2, none⟩) (Nat.le_refl _) _⟩
    have h1 := HANY.out
    rw [hat, eq_comm, List.any_eq_false] at h1
    exact h1 m hm (by simpa using e9)
  | true =>
    go_upto_region 5 with fail
    generalize wf.alloc (.cells #[.int .i64 (p : Int), .int .i64 (i : Int)] 67) = w2 at *
    have hil0 := isAt_lt hat
    have hpl : p < G.length := by
      rcases Nat.lt_or_ge p G.length with h | h
      · exact h
      · rw [pgAt_ge (by rw [mls_len]; exact h)] at hil0; simp at hil0
    have hv : G[p]? = some G[p] := List.getElem?_eq_getElem hpl
    generalize G[p] = g at *
    obtain ⟨m, hm⟩ := spot_pair HSP.out (by rw [mls_len]; exact hpl)
    have hr : isAt (mls G) key p i = (m.key == key) := by unfold isAt; rw [hm]
    have hmem : m ∈ (mls G).flatten := ML_mem (List.mem_of_getElem? hm)
    rw [mls_at hv] at hm
    rw [hat] at hr
    have hmk : m.key = key := by simpa using hr.symm
    have hbb := HB8.out g (List.mem_of_getElem? hv) m (List.mem_of_getElem? hm)
    obtain ⟨b, off, rfl, d1⟩ := HPG.out.get hv
    rw [Nat.mul_one] at d1
    have hrd : Prs w (.slice g.a g.M.length g.c) g.M := HPG.out.at hv
    obtain ⟨ga, gc, gM⟩ := g
    simp only at *
    obtain ⟨b2, off2, rfl, e1, e2, e3⟩ := hrd.get hm
    have hmd := hrd.at hm
    have hil : i < gM.length := (List.getElem?_eq_some_iff.1 hm).1
    have hml : gM.length ≤ maxLen := (hrd.form).choose_spec.choose_spec.2
    have hgl : G.length ≤ maxLen := (HPG.out.form).choose_spec.choose_spec.2
    unfold maxLen at hml hgl
    have o1 := one_rd hmd.1
    have o2 := one_rd hmd.2
    have HMD := hid hmd
    have HMEM := hid (And.intro hmem hmk)
    have HLB := hid (And.intro (World.block_lt_of_cell? w _ d1) (World.block_lt_of_cell? w _ e1))
    have HD := hid (And.intro d1 (And.intro e1 (And.intro e2 e3)))
    have HK0 : Hid (K3 w.heap.size wf.heap.size (.int .i64 (p : Int)) (.int .i64 (i : Int)) w2 w2) := ⟨Below.refl _ _, H7x.out, _, _, _, H4x.out⟩
    have HKp : Hid (∀ W, K3 w.heap.size wf.heap.size (.int .i64 (p : Int)) (.int .i64 (i : Int)) w2 W → (Hid (K3 w.heap.size wf.heap.size (.int .i64 (p : Int)) (.int .i64 (i : Int)) w2 W) ∧ W.cell? ⟨w.heap.size, 0, none⟩ = some (valAt W ⟨w.heap.size, 0, none⟩) ∧ W.cell? ⟨w.heap.size, 1, none⟩ = some (valAt W ⟨w.heap.size, 1, none⟩) ∧ W.cell? ⟨w.heap.size, 2, none⟩ = some (valAt W ⟨w.heap.size, 2, none⟩) ∧ W.frozen? ⟨w.heap.size, 0, none⟩ = false ∧ W.frozen? ⟨w.heap.size, 1, none⟩ = false ∧ W.frozen? ⟨w.heap.size, 2, none⟩ = false ∧ W.cell? ⟨wf.heap.size, 0, none⟩ = some (.int .i64 (p : Int)) ∧ W.cell? ⟨wf.heap.size, 1, none⟩ = some (.int .i64 (i : Int)) ∧ W.cell? ⟨b, off + p, none⟩ = some (.slice (some ⟨b2, off2, none⟩) gM.length gc) ∧ W.cell? ⟨b2, off2 + i * 3, none⟩ = some (.slice m.ka m.key.length m.kc) ∧ W.cell? ⟨b2, off2 + i * 3 + 1, none⟩ = some (.slice m.va m.val.length m.vc) ∧ W.cell? ⟨b2, off2 + i * 3 + 2, none⟩ = some (.int .i64 m.ver))) := fun W h => by
      obtain ⟨q0, q1, q2, q3, q4, q5, q6, q7⟩ := h.cells
      have hc : ∀ (a : Addr) v, a.block < w.heap.size → w.cell? a = some v → W.cell? a = some v := fun a v ha hv => ((HBX.out.trans h.below).cell (p := a) ha).trans hv
      exact ⟨h, q0, q1, q2, q3, q4, q5, q6, q7, hc _ _ HLB.out.1 HD.out.1, hc _ _ HLB.out.2 HD.out.2.1, hc _ _ HLB.out.2 HD.out.2.2.1, hc _ _ HLB.out.2 HD.out.2.2.2⟩
    have C2 : Hid (∀ W, Below w.heap.size w2 W → w.heap.size < W.heap.size → Calls Try.prog 37 #[.agg #[.slice m.ka m.key.length m.kc, .slice m.va m.val.length m.vc, .int .i64 m.ver]] W (CopyA m W)) := fun W h _ => copied_any m W (HMD.out.old (HBX.out.trans h)) hbb.1 hbb.2
    have hk0 := HK0.out
    clear d1 e1 e2 e3 hrd hmd hv hm hmem hmk hr
    obtain ⟨-, t0, t1, t2, s0, s1, s2, f0, f1, d1, e1, e2, e3⟩ := HKp.out _ hk0
    clear hk0
    go_region_held3 (fun W => Hid (K3 w.heap.size wf.heap.size (.int .i64 (p : Int)) (.int .i64 (i : Int)) w2 W) ∧ W.cell? ⟨w.heap.size, 0, none⟩ = some (valAt W ⟨w.heap.size, 0, none⟩) ∧ W.cell? ⟨w.heap.size, 1, none⟩ = some (valAt W ⟨w.heap.size, 1, none⟩) ∧ W.cell? ⟨w.heap.size, 2, none⟩ = some (valAt W ⟨w.heap.size, 2, none⟩) ∧ W.frozen? ⟨w.heap.size, 0, none⟩ = false ∧ W.frozen? ⟨w.heap.size, 1, none⟩ = false ∧ W.frozen? ⟨w.heap.size, 2, none⟩ = false ∧ W.cell? ⟨wf.heap.size, 0, none⟩ = some (.int .i64 (p : Int)) ∧ W.cell? ⟨wf.heap.size, 1, none⟩ = some (.int .i64 (i : Int)) ∧ W.cell? ⟨b, off + p, none⟩ = some (.slice (some ⟨b2, off2, none⟩) gM.length gc) ∧ W.cell? ⟨b2, off2 + i * 3, none⟩ = some (.slice m.ka m.key.length m.kc) ∧ W.cell? ⟨b2, off2 + i * 3 + 1, none⟩ = some (.slice m.va m.val.length m.vc) ∧ W.cell? ⟨b2, off2 + i * 3 + 2, none⟩ = some (.int .i64 m.ver))
      (first | (go_split_ands; first | exact HKp.out _ (Hid.out (by assumption)) | exact HKp.out _ (K3.drew HK0.out) | exact HKp.out _ (K3.call (by assumption : Hid (K3 _ _ _ _ _ _)).out (by assumption)) | exact HKp.out _ (K3.set (by assumption : Hid (K3 _ _ _ _ _ _)).out (by have := HLT7.out; omega) _ _ _)) | go_keep)
      (first
        | (go_at_call 37; go_split_ands; have HPRE := (by assumption : Hid (K3 _ _ _ _ _ _)); have hlt9 := K3.lt HPRE.out; refine (C2.out _ HPRE.out.below hlt9).mono ?_; rintro e wk ⟨m', hal, rfl, hmi, hbk⟩; have HAL := hid hal; have HBK := hid (HPRE.out.call hbk); have HMI := hid (Mine.base (b' := w.heap.size + 1) hmi (Nat.succ_le_of_lt hlt9)); clear HPRE hal hmi hlt9; unfold pv))
    all_goals (go_wp2_with fail)
    obtain ⟨u1, u2, u3, hu⟩ := HBK.out.three
    refine bodyPost_ret (results_cell2 rfl _ _ w.heap.size 31 _ (0, 0) _ rfl (three_set hu) Try.underlying31 rfl (by kernel_rfl)) rfl ?_
    refine .inl ⟨m, m', HMEM.out.1, HMEM.out.2, HAL.out, ?_, rfl, ?_⟩
    · exact (((HMI.out.set (Nat.lt_succ_self _) 0 _).set (Nat.lt_succ_self _) 1 _).set (Nat.lt_succ_self _) 2 _).base (Nat.le_succ _)
    · exact (((HBX.out.trans HBK.out.below).setCell (p := ⟨w.heap.size, 0, none⟩) (Nat.le_refl _) _).setCell (p := ⟨w.heap.size, 1, none⟩) (Nat.le_refl _) _).setCell (p := ⟨w.heap.size, 2, none⟩) (Nat.le_refl _) _
end Go.Proofs.Ytcgnghkjkdkmmaa
