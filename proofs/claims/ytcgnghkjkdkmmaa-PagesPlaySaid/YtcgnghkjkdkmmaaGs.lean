/-
  PAGES: seek, find, ahead, behind, part: where keys stand on pages.
-/
import Derived.Test.YtcgnghkjkdkmmaaGk
import Derived.Laws.ResultCell
import Derived.Deep.RegionHeld3
import Derived.BigRegion
set_option linter.unusedVariables false
namespace Go.Proofs.Ytcgnghkjkdkmmaa
open Go.RowKit Go.Shelf

/-- Pages that are right to look up in: none is empty; in order. -/
structure Ord (G : List Pg) : Prop where
  ne : ∀ g ∈ G, g.M ≠ []
  srt : Srt (mls G).flatten
  len : G.length ≤ 1000000
  each : ∀ g ∈ G, g.M.length ≤ 1000000

def spotV (p i : Nat) : Value := .agg #[.int .i64 (p : Int), .int .i64 (i : Int)]

theorem below_drewN {n : Nat} {w w1 : World} (h : Below n w w1) (k : Nat) : Below n w (w1.drewN k) := ⟨h.os, h.tape, h.output, h.size, h.block⟩

theorem cmp_beq (a b : List UInt8) : (cmpB a b == 0) = (a == b) := by
  rw [Bool.eq_iff_iff]; simp [cmp0]

/-- What a cell holds, under a name that no rule opens. -/
def valAt (W : World) (a : Addr) : Value := (W.cell? a).getD undef
theorem valAt_some {W : World} {a : Addr} {v : Value} (h : W.cell? a = some v) : W.cell? a = some (valAt W a) := by unfold valAt; rw [h]; rfl

/-- In a region: what lay below r lies as it lay; block r is two cells; the other blocks named are as they were. -/
structure Kp (r : Nat) (t : TypeId) (T : List (Nat × Obj)) (w W : World) : Prop where
  below : Below r w W
  two : ∃ u v, W.heap[r]? = some (.cells #[u, v] t (0, 0))
  at' : ∀ x ∈ T, r < x.1 ∧ W.heap[x.1]? = some x.2

theorem Kp.drew {r t T w W} (h : Kp r t T w W) : Kp r t T w W.drew := ⟨⟨h.below.os, h.below.tape, h.below.output, h.below.size, h.below.block⟩, h.two, h.at'⟩
theorem Kp.call {r t T w W W'} (h : Kp r t T w W) (hb : Below W.heap.size W W') : Kp r t T w W' := by
  obtain ⟨u, v, hu⟩ := h.two
  exact ⟨h.below.trans (hb.mono (Nat.le_of_lt (lt_of_block hu))), ⟨u, v, (hb.block r (lt_of_block hu)).trans hu⟩, fun x hx => ⟨(h.at' x hx).1, (hb.block _ (lt_of_block (h.at' x hx).2)).trans (h.at' x hx).2⟩⟩
theorem Kp.set0 {r t T w W} (h : Kp r t T w W) (v : Value) : Kp r t T w (W.setCell ⟨r, 0, none⟩ v) := by
  obtain ⟨u, q, hu⟩ := h.two
  exact ⟨h.below.setCell (p := ⟨r, 0, none⟩) (Nat.le_refl _) _, ⟨v, q, two_set0 hu⟩, fun x hx => ⟨(h.at' x hx).1, heap_kept (grown_set W ⟨r, 0, none⟩ v) (h.at' x hx).2 (by simp; have := (h.at' x hx).1; omega)⟩⟩
theorem Kp.set1 {r t T w W} (h : Kp r t T w W) (v : Value) : Kp r t T w (W.setCell ⟨r, 1, none⟩ v) := by
  obtain ⟨u, q, hu⟩ := h.two
  exact ⟨h.below.setCell (p := ⟨r, 1, none⟩) (Nat.le_refl _) _, ⟨u, v, two_set1 hu⟩, fun x hx => ⟨(h.at' x hx).1, heap_kept (grown_set W ⟨r, 1, none⟩ v) (h.at' x hx).2 (by simp; have := (h.at' x hx).1; omega)⟩⟩
theorem Kp.cells {r t T w W} (h : Kp r t T w W) : W.cell? ⟨r, 0, none⟩ = some (valAt W ⟨r, 0, none⟩) ∧ W.cell? ⟨r, 1, none⟩ = some (valAt W ⟨r, 1, none⟩) ∧ W.frozen? ⟨r, 0, none⟩ = false ∧ W.frozen? ⟨r, 1, none⟩ = false := by
  obtain ⟨u, v, hu⟩ := h.two
  obtain ⟨a, b, c, d⟩ := two_cells hu
  exact ⟨valAt_some a, valAt_some b, c, d⟩

/-- What seek tells. -/
def SeekA (G : List Pg) (key : List UInt8) (w : World) (e : Ending) (w' : World) : Prop :=
  ∃ p i : Nat, SpotOk (mls G) key p i ∧ e = .returned (spotV p i) ∧ Below w.heap.size w w'

set_option maxHeartbeats 4000000 in
set_option maxRecDepth 100000 in
theorem seek_any (x y : Value) (G : List Pg) (key : List UInt8) (w : World) (hx : Pgs w x G) (hy : Rd w y key) (ho : Ord G) :
    Calls Try.prog 41 #[x, y] w (SeekA G key w) := by
  obtain ⟨ao, c, rfl, hm⟩ := hx.form
  have B0 := (Below.refl w.heap.size w).alloc (Nat.le_refl _) (.cells #[.int .i64 0, .int .i64 0] 67)
  have C := bsG_any _ y G key _ (hx.old B0) (hy.old B0) ho.ne ho.len (mono_last ho.ne ho.srt key)
  have HX := hid hx
  have HY := hid hy
  have HO := hid ho
  have HB0 := hid B0
  have HS : Hid ((w.alloc (.cells #[.int .i64 0, .int .i64 0] 67)).heap[w.heap.size]? = some (.cells #[.int .i64 0, .int .i64 0] 67 (0, 0))) := heap_alloc_new _ _
  clear hx hy ho B0
  go_enter Try.func41, Try.ntmps41
  go_wp2_with (first | (go_at_call 55; refine C.mono ?_))
  rintro e w1 ⟨k, hk, rfl, hb1⟩
  have hkl := hk.1
  rw [List.length_map] at hkl
  have HK := hid hk
  have HB1 := hid (HB0.out.trans (hb1.mono HB0.out.size))
  have HS1 := hid ((hb1.block w.heap.size (lt_of_block HS.out)).trans HS.out)
  clear hk hb1
  by_cases hkn : k = G.length
  · subst hkn
    obtain ⟨s0, s1, f0, f1⟩ := two_cells HS1.out
    go_wp2_with fail
    refine bodyPost_ret (results_cell_row rfl _ _ w.heap.size 67 _ (0, 0) _ rfl (two_set1 (two_set0 HS1.out)) Try.underlying67 rfl (by kernel_rfl)) rfl ?_
    exact ⟨G.length, 0, spot_end HO.out.ne HO.out.srt HK.out, rfl, (HB1.out.setCell (p := ⟨w.heap.size, 0, none⟩) (Nat.le_refl _) _).setCell (p := ⟨w.heap.size, 1, none⟩) (Nat.le_refl _) _⟩
  · have hlt : k < G.length := by omega
    have hv : G[k]? = some G[k] := List.getElem?_eq_getElem hlt
    generalize G[k] = g at *
    obtain ⟨b, off, rfl, d1⟩ := (HX.out.old HB1.out).get hv
    rw [Nat.mul_one] at d1
    have hrd := (HX.out.old HB1.out).at hv
    have C2 := bsP_any _ y g.M key _ hrd (HY.out.old HB1.out) (HO.out.each g (List.mem_of_getElem? hv)) (((srt_pages HO.out.srt).1 g.M (List.mem_of_getElem? (by unfold mls; rw [List.getElem?_map, hv]; rfl))).mono key)
    obtain ⟨s0, s1, f0, f1⟩ := two_cells HS1.out
    have HV := hid hv
    clear hv hrd
    go_wp2_with (first | (go_at_call 57; refine C2.mono ?_))
    rintro e w2 ⟨i, hi, rfl, hb2⟩
    have HS2 := hid ((hb2.block w.heap.size (by have := lt_of_block HS1.out; exact this)).trans HS1.out)
    have HB2 := hid (HB1.out.trans (hb2.mono HB1.out.size))
    have HI := hid hi
    clear hi hb2 s0 s1 f0 f1
    obtain ⟨s0, s1, f0, f1⟩ := two_cells HS2.out
    go_wp2_with fail
    refine bodyPost_ret (results_cell_row rfl _ _ w.heap.size 67 _ (0, 0) _ rfl (two_set1 (two_set0 HS2.out)) Try.underlying67 rfl (by kernel_rfl)) rfl ?_
    exact ⟨k, i, spot_on HO.out.ne HO.out.srt HV.out HK.out HI.out, rfl, (HB2.out.setCell (p := ⟨w.heap.size, 0, none⟩) (Nat.le_refl _) _).setCell (p := ⟨w.heap.size, 1, none⟩) (Nat.le_refl _) _⟩

/-- The first pair at a spot or behind it, if it stands on that page. -/
theorem spot_pair {ML : List (List Lp)} {key : List UInt8} {p i : Nat} (h : SpotOk ML key p i) (hp : p < ML.length) : ∃ m, (pgAt ML p)[i]? = some m := ⟨_, List.getElem?_eq_getElem (h.here hp)⟩

/-- Is the key at the spot? -/
def isAt (ML : List (List Lp)) (key : List UInt8) (p i : Nat) : Bool := match (pgAt ML p)[i]? with
  | some m => m.key == key
  | none => false

def FindA (G : List Pg) (key : List UInt8) (w : World) (e : Ending) (w' : World) : Prop :=
  ∃ p i : Nat, SpotOk (mls G) key p i ∧ e = .returned (.tuple #[spotV p i, .bool (isAt (mls G) key p i)]) ∧ Below w.heap.size w w'

set_option maxHeartbeats 4000000 in
set_option maxRecDepth 100000 in
theorem ahead_any (x : Value) (G : List Pg) (p i : Nat) (w : World) (hx : Pgs w x G) (hp : p ≤ G.length) (hi : i ≤ (pgAt (mls G) p).length) (hG : ∀ g ∈ G, g.M.length ≤ 1000000) (hl : G.length ≤ 1000000) :
    Calls Try.prog 44 #[x, spotV p i] w (fun e w' => ∃ v, e = .returned v ∧ Prs w v ((pgAt (mls G) p).take i) ∧ Below w.heap.size w w') := by
  obtain ⟨ao, c, rfl, hm⟩ := hx.form
  have B0 := (Below.refl w.heap.size w).alloc (Nat.le_refl _) (.cells #[.int .i64 (p : Int), .int .i64 (i : Int)] 67)
  have HB0 := hid B0
  have HX := hid hx
  have HX0 := hid (hx.old B0)
  clear hx B0
  unfold spotV
  by_cases hpn : p = G.length
  · subst hpn
    have hb : ((G.length : Int) == (G.length : Int)) = true := by simp
    go_enter Try.func44, Try.ntmps44
    go_wp2_with fail
    go_ret
    refine ⟨_, rfl, ?_, HB0.out⟩
    rw [pgAt_ge (by rw [mls_len]; omega), List.take_nil]
    exact Prs.nil w
  · have hlt : p < G.length := by omega
    have hv : G[p]? = some G[p] := List.getElem?_eq_getElem hlt
    generalize G[p] = g at *
    rw [mls_at hv] at hi ⊢
    have hgl := hG g (List.mem_of_getElem? hv)
    obtain ⟨b, off, rfl, d1⟩ := HX0.out.get hv
    rw [Nat.mul_one] at d1
    have hrd : Prs w (.slice g.a g.M.length g.c) g.M := HX.out.at hv
    obtain ⟨ao2, c2, hs2, hr2, -⟩ := hrd.1.head (P := Try.prog) 29 31 Try.underlying29 (by kernel_rfl) i (by rw [List.length_map]; omega)
    have hs2' := fun W => hs2 .i64 W
    have HR : Hid (Prs w (.slice ao2 i c2) (g.M.take i)) := ⟨by rw [List.map_take]; exact hr2, fun m hm => hrd.2 m (List.mem_of_mem_take hm)⟩
    have hb : ((p : Int) == (G.length : Int)) = false := beq_eq_false_iff_ne.2 (by omega)
    have hb2 : ¬ ((p : Int) = (G.length : Int)) := by omega
    clear hs2 hr2 hrd hv
    go_enter Try.func44, Try.ntmps44
    go_wp2_with fail
    go_quiet (fail)
    rename_i nq
    go_wp2_with fail
    go_ret
    exact ⟨_, rfl, HR.out, below_drewN HB0.out _⟩

set_option maxHeartbeats 4000000 in
set_option maxRecDepth 100000 in
theorem behind_any (x : Value) (G : List Pg) (p i : Nat) (w : World) (hx : Pgs w x G) (hp : p ≤ G.length) (hi : i ≤ (pgAt (mls G) p).length) (hG : ∀ g ∈ G, g.M.length ≤ 1000000) (hl : G.length ≤ 1000000) :
    Calls Try.prog 45 #[x, spotV p i] w (fun e w' => ∃ v, e = .returned v ∧ Prs w v ((pgAt (mls G) p).drop i) ∧ Below w.heap.size w w') := by
  obtain ⟨ao, c, rfl, hm⟩ := hx.form
  have B0 := (Below.refl w.heap.size w).alloc (Nat.le_refl _) (.cells #[.int .i64 (p : Int), .int .i64 (i : Int)] 67)
  have HB0 := hid B0
  have HX := hid hx
  have HX0 := hid (hx.old B0)
  clear hx B0
  unfold spotV
  by_cases hpn : p = G.length
  · subst hpn
    have hb : ((G.length : Int) == (G.length : Int)) = true := by simp
    go_enter Try.func45, Try.ntmps45
    go_wp2_with fail
    go_ret
    refine ⟨_, rfl, ?_, HB0.out⟩
    rw [pgAt_ge (by rw [mls_len]; omega), List.drop_nil]
    exact Prs.nil w
  · have hlt : p < G.length := by omega
    have hv : G[p]? = some G[p] := List.getElem?_eq_getElem hlt
    generalize G[p] = g at *
    rw [mls_at hv] at hi ⊢
    have hgl := hG g (List.mem_of_getElem? hv)
    obtain ⟨b, off, rfl, d1⟩ := HX0.out.get hv
    rw [Nat.mul_one] at d1
    have hrd : Prs w (.slice g.a g.M.length g.c) g.M := HX.out.at hv
    obtain ⟨ao2, c2, hs2, hr2, -⟩ := hrd.1.cut (P := Try.prog) (by decide) 29 31 Try.underlying29 (by kernel_rfl) i (by rw [List.length_map]; omega)
    rw [List.length_map] at hs2 hr2
    have HR : Hid (Prs w (.slice ao2 (g.M.length - i) c2) (g.M.drop i)) := ⟨by rw [List.map_drop]; exact hr2, fun m hm => hrd.2 m (List.mem_of_mem_drop hm)⟩
    have hb : ((p : Int) == (G.length : Int)) = false := beq_eq_false_iff_ne.2 (by omega)
    have hb2 : ¬ ((p : Int) = (G.length : Int)) := by omega
    clear hr2 hrd hv
    go_enter Try.func45, Try.ntmps45
    go_wp2_with fail
    go_quiet (fail)
    rename_i nq
    go_wp2_with fail
    go_ret
    exact ⟨_, rfl, HR.out, below_drewN HB0.out _⟩

set_option maxHeartbeats 4000000 in
set_option maxRecDepth 100000 in
theorem find_anyG (x y : Value) (G : List Pg) (key : List UInt8) (w : World) (hx : Pgs w x G) (hy : Rd w y key) (ho : Ord G) :
    Calls Try.prog 30 #[x, y] w (FindA G key w) := by
  obtain ⟨ao, c, rfl, hm⟩ := hx.form
  have B0 := (Below.refl w.heap.size w).alloc (Nat.le_refl _) (.cells #[.int .i64 0, .int .i64 0] 67)
  have C := seek_any _ y G key _ (hx.old B0) (hy.old B0) ho
  have HX := hid hx
  have HY := hid hy
  have HO := hid ho
  have HB0 := hid B0
  have HS : Hid ((w.alloc (.cells #[.int .i64 0, .int .i64 0] 67)).heap[w.heap.size]? = some (.cells #[.int .i64 0, .int .i64 0] 67 (0, 0))) := heap_alloc_new _ _
  clear hx hy ho B0
  go_enter Try.func30, Try.ntmps30
  go_wp2_with (first | (go_at_call 41; refine C.mono ?_; rintro e w1 ⟨p, i, hs, rfl, hb1⟩; unfold spotV))
  have HSP := hid hs
  have HB1 := hid (HB0.out.trans (hb1.mono HB0.out.size))
  have HS1 := hid ((hb1.block w.heap.size (lt_of_block HS.out)).trans HS.out)
  clear hs hb1
  go_wp2_with fail
  have HB2 := hid (HB1.out.alloc HB1.out.size (.cells #[.int .i64 (p : Int), .int .i64 (i : Int)] 67))
  have HT2 : Hid ((w1.alloc (.cells #[.int .i64 (p : Int), .int .i64 (i : Int)] 67)).heap[w1.heap.size]? = some (.cells #[.int .i64 (p : Int), .int .i64 (i : Int)] 67 (0, 0))) := heap_alloc_new _ _
  have HS2 : Hid ((w1.alloc (.cells #[.int .i64 (p : Int), .int .i64 (i : Int)] 67)).heap[w.heap.size]? = some (.cells #[.int .i64 0, .int .i64 0] 67 (0, 0))) := (Below.heap_alloc _ _ _ (lt_of_block HS1.out)).trans HS1.out
  generalize w1.alloc (.cells #[.int .i64 (p : Int), .int .i64 (i : Int)] 67) = w2 at *
  have hp := HSP.out.le
  rw [mls_len] at hp
  obtain ⟨c0, c1, -, -⟩ := two_cells HT2.out
  obtain ⟨s0, s1, f0, f1⟩ := two_cells HS2.out
  by_cases hpn : p = G.length
  · subst hpn
    have hi0 := HSP.out.none (mls_len G).symm
    subst hi0
    have hb : ¬ ((G.length : Int) < (G.length : Int)) := by omega
    have hr : isAt (mls G) key G.length 0 = false := by unfold isAt; rw [pgAt_ge (by rw [mls_len]; omega)]; rfl
    have hbd : decide ((G.length : Int) < (G.length : Int)) = false := decide_eq_false (by omega)
    go_region
    all_goals (go_wp2_with fail)
    have hs2 : w2.drew.heap[w.heap.size]? = some (.cells #[.int .i64 0, .int .i64 0] 67 (0, 0)) := HS2.out
    refine bodyPost_ret (results_cell2 rfl _ _ w.heap.size 67 _ (0, 0) _ rfl (two_set1 (two_set0 hs2)) Try.underlying67 rfl (by kernel_rfl)) rfl ?_
    refine ⟨G.length, 0, HSP.out, by rw [hr]; rfl, ?_⟩
    exact ((Below.drew HB2.out).setCell (p := ⟨w.heap.size, 0, none⟩) (Nat.le_refl _) _).setCell (p := ⟨w.heap.size, 1, none⟩) (Nat.le_refl _) _
  · have hlt : p < G.length := by omega
    have hv : G[p]? = some G[p] := List.getElem?_eq_getElem hlt
    generalize G[p] = g at *
    obtain ⟨m, hm⟩ := spot_pair HSP.out (by rw [mls_len]; exact hlt)
    have hr : isAt (mls G) key p i = (m.key == key) := by unfold isAt; rw [hm]
    rw [mls_at hv] at hm
    obtain ⟨b, off, rfl, d1⟩ := (HX.out.old HB2.out).get hv
    rw [Nat.mul_one] at d1
    have hrd : Prs w2 (.slice g.a g.M.length g.c) g.M := (HX.out.old HB2.out).at hv
    obtain ⟨ga, gc, gM⟩ := g
    simp only at *
    obtain ⟨b2, off2, rfl, e1, e2, e3⟩ := hrd.get hm
    have hmd := hrd.at hm
    have hil : i < gM.length := (List.getElem?_eq_some_iff.1 hm).1
    have hml : gM.length ≤ maxLen := (hrd.form).choose_spec.choose_spec.2
    unfold maxLen at hml
    have o1 := one_rd hmd.1
    have o2 := one_rd hmd.2
    have hmb := HX.out.at hv
    have HMD : Hid (RdP w m) := hid (Prs.at (show Prs w _ gM from hmb) hm)
    have C2 : ∀ W, Below w.heap.size w W → Calls Try.prog 42 #[pv m, y] W (AnsP W (.int .i64 (cmpB m.key key))) := fun W h => against_any m y key _ (HMD.out.old h) (HY.out.old h)
    unfold pv at C2
    have HC2 := hid C2
    clear C2 hmb
    have lb : b < w.heap.size ∧ b2 < w.heap.size := by
      obtain ⟨b9, off9, h9, e9⟩ := HX.out.get hv
      cases h9
      obtain ⟨b8, off8, h8, e8, -, -⟩ := Prs.get (show Prs w _ gM from HX.out.at hv) hm
      cases h8
      exact ⟨World.block_lt_of_cell? w _ e9, World.block_lt_of_cell? w _ e8⟩
    have HLB := hid lb
    have HD := hid (And.intro d1 (And.intro e1 (And.intro e2 e3)))
    clear lb
    clear hrd hmd hv
    have HK0 : Hid (Kp w.heap.size 67 [(w1.heap.size, .cells #[.int .i64 (p : Int), .int .i64 (i : Int)] 67 (0, 0))] w2 w2) := ⟨Below.refl _ _, ⟨_, _, HS2.out⟩, fun x hx => by simp at hx; subst hx; exact ⟨lt_of_block HS1.out, HT2.out⟩⟩
    have HKp : Hid (∀ W, Kp w.heap.size 67 [(w1.heap.size, .cells #[.int .i64 (p : Int), .int .i64 (i : Int)] 67 (0, 0))] w2 W → (Hid (Kp w.heap.size 67 [(w1.heap.size, .cells #[.int .i64 (p : Int), .int .i64 (i : Int)] 67 (0, 0))] w2 W) ∧ W.cell? ⟨w1.heap.size, 0, none⟩ = some (.int .i64 (p : Int)) ∧ W.cell? ⟨w1.heap.size, 1, none⟩ = some (.int .i64 (i : Int)) ∧ W.cell? ⟨w.heap.size, 0, none⟩ = some (valAt W ⟨w.heap.size, 0, none⟩) ∧ W.cell? ⟨w.heap.size, 1, none⟩ = some (valAt W ⟨w.heap.size, 1, none⟩) ∧ W.frozen? ⟨w.heap.size, 0, none⟩ = false ∧ W.frozen? ⟨w.heap.size, 1, none⟩ = false ∧
      W.cell? ⟨b, off + p, none⟩ = some (.slice (some ⟨b2, off2, none⟩) gM.length gc) ∧ W.cell? ⟨b2, off2 + i * 3, none⟩ = some (.slice m.ka m.key.length m.kc) ∧ W.cell? ⟨b2, off2 + i * 3 + 1, none⟩ = some (.slice m.va m.val.length m.vc) ∧ W.cell? ⟨b2, off2 + i * 3 + 2, none⟩ = some (.int .i64 m.ver))) := fun W h => by
      obtain ⟨q0, q1, -, -⟩ := two_cells (h.at' _ (List.mem_singleton.2 rfl)).2
      obtain ⟨q2, q3, q4, q5⟩ := h.cells
      have hc : ∀ (a : Addr) v, a.block < w.heap.size → w2.cell? a = some v → W.cell? a = some v := fun a v ha hv => (h.below.cell (p := a) ha).trans hv
      exact ⟨h, q0, q1, q2, q3, q4, q5, hc _ _ HLB.out.1 HD.out.1, hc _ _ HLB.out.2 HD.out.2.1, hc _ _ HLB.out.2 HD.out.2.2.1, hc _ _ HLB.out.2 HD.out.2.2.2⟩
    have hk0 := HK0.out
    clear d1 e1 e2 e3 c0 c1 s0 s1 f0 f1
    obtain ⟨-, t0, t1, s0, s1, f0, f1, d1, e1, e2, e3⟩ := HKp.out _ hk0
    clear hk0
    go_region_held3 (fun W => Hid (Kp w.heap.size 67 [(w1.heap.size, .cells #[.int .i64 (p : Int), .int .i64 (i : Int)] 67 (0, 0))] w2 W) ∧ W.cell? ⟨w1.heap.size, 0, none⟩ = some (.int .i64 (p : Int)) ∧ W.cell? ⟨w1.heap.size, 1, none⟩ = some (.int .i64 (i : Int)) ∧ W.cell? ⟨w.heap.size, 0, none⟩ = some (valAt W ⟨w.heap.size, 0, none⟩) ∧ W.cell? ⟨w.heap.size, 1, none⟩ = some (valAt W ⟨w.heap.size, 1, none⟩) ∧ W.frozen? ⟨w.heap.size, 0, none⟩ = false ∧ W.frozen? ⟨w.heap.size, 1, none⟩ = false ∧
      W.cell? ⟨b, off + p, none⟩ = some (.slice (some ⟨b2, off2, none⟩) gM.length gc) ∧ W.cell? ⟨b2, off2 + i * 3, none⟩ = some (.slice m.ka m.key.length m.kc) ∧ W.cell? ⟨b2, off2 + i * 3 + 1, none⟩ = some (.slice m.va m.val.length m.vc) ∧ W.cell? ⟨b2, off2 + i * 3 + 2, none⟩ = some (.int .i64 m.ver))
      (first | (go_split_ands; first | exact HKp.out _ (Kp.drew HK0.out) | exact HKp.out _ (Kp.call (by assumption : Hid (Kp _ _ _ _ _)).out (by assumption)) | exact HKp.out _ (Kp.set1 (Kp.set0 (by assumption : Hid (Kp _ _ _ _ _)).out _) _)) | go_keep)
      (first
        | (go_at_call 42; go_split_ands; refine (HC2.out _ (HB2.out.trans ((by assumption : Hid (Kp _ _ _ _ _)).out.below.mono (Nat.le_refl _)))).mono ?_; rintro e wa ⟨rfl, ha⟩))
    all_goals (go_wp2_with fail)
    all_goals go_split_ands
    have hkk := Kp.call (Kp.drew HK0.out) ha
    obtain ⟨u, v, hu⟩ := hkk.two
    refine bodyPost_ret (results_cell2 rfl _ _ w.heap.size 67 _ (0, 0) _ rfl (two_set1 (two_set0 hu)) Try.underlying67 rfl (by kernel_rfl)) rfl ?_
    refine ⟨p, i, HSP.out, by rw [hr, ← cmp_beq]; rfl, ?_⟩
    exact HB2.out.trans (hkk.set0 _ |>.set1 _).below
end Go.Proofs.Ytcgnghkjkdkmmaa
