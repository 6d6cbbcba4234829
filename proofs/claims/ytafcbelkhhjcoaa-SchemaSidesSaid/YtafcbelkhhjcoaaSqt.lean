/-
  LAYER 12: what the states do, of the code; the law's awake.
-/
import Derived.Test.YtafcbelkhhjcoaaSqs
import Derived.Test.YtafcbelkhhjcoaaSf
set_option linter.unusedVariables false
set_option linter.unusedSimpArgs false
set_option maxRecDepth 100000
namespace Go.Proofs.Ytafcbelkhhjcoaa
open Go.RowKit Go.Deep

theorem put3 {w : World} {b : Nat} {a0 a1 a2 : Value} {t : TypeId} (h : w.heap[b]? = some (.cells #[a0, a1, a2] t (0, 0))) (v0 v1 v2 : Value) :
    (((w.setCell ⟨b, 0, none⟩ v0).setCell ⟨b, 1, none⟩ v1).setCell ⟨b, 2, none⟩ v2).heap[b]? = some (.cells #[v0, v1, v2] t (0, 0)) ∧
    Keep (fun k => k = b) w (((w.setCell ⟨b, 0, none⟩ v0).setCell ⟨b, 1, none⟩ v1).setCell ⟨b, 2, none⟩ v2) := by
  have h1 := put_in (cs := [a0, a1, a2]) h 0 v0
  have k1 : Keep (fun k => k = b) w (w.setCell ⟨b, 0, none⟩ v0) := Keep.set _ _ _ rfl
  generalize w.setCell ⟨b, 0, none⟩ v0 = w1 at *
  have h2 := put_in h1 1 v1
  have k2 : Keep (fun k => k = b) w (w1.setCell ⟨b, 1, none⟩ v1) := k1.trans (Keep.set _ _ _ rfl)
  generalize w1.setCell ⟨b, 1, none⟩ v1 = w2 at *
  exact ⟨put_in h2 2 v2, k2.trans (Keep.set _ _ _ rfl)⟩

theorem keepS1 (w : World) (b i : Nat) (u : Value) : Keep (fun k => k = b) w (w.setCell ⟨b, i, none⟩ u) := Keep.set _ _ _ rfl
theorem keepS2 (w : World) (b i j : Nat) (u v : Value) : Keep (fun k => k = b) w ((w.setCell ⟨b, i, none⟩ u).setCell ⟨b, j, none⟩ v) := by
  have h := keepS1 w b i u
  generalize w.setCell ⟨b, i, none⟩ u = w1 at *
  exact h.trans (keepS1 _ _ _ _)
theorem keepS3 (w : World) (b i j l : Nat) (u v x : Value) : Keep (fun k => k = b) w (((w.setCell ⟨b, i, none⟩ u).setCell ⟨b, j, none⟩ v).setCell ⟨b, l, none⟩ x) := by
  have h := keepS2 w b i j u v
  generalize (w.setCell ⟨b, i, none⟩ u).setCell ⟨b, j, none⟩ v = w1 at *
  exact h.trans (keepS1 _ _ _ _)

set_option maxHeartbeats 4000000 in
theorem does_any (w : World) (s : Int) : Calls Try.prog 114 #[.int .i64 s] w (fun e w' => e = .returned (.agg #[.bool (readsI s), .bool (writesI s), .bool (deletesI s)]) ∧ Below w.heap.size w w') := by
  go_enter Try.func114, Try.ntmps114
  go_upto_region 2 with fail
  have hb := (Below.refl w.heap.size w).alloc (Nat.le_refl _) (.cells #[.bool false, .bool false, .bool false] 137)
  have hz := heap_alloc_new w (.cells #[.bool false, .bool false, .bool false] 137)
  have hsz : (w.alloc (.cells #[.bool false, .bool false, .bool false] 137)).heap.size = w.heap.size + 1 := by simp
  generalize w.alloc (.cells #[.bool false, .bool false, .bool false] 137) = w1 at *
  have hz2 := heap_alloc_new w1 (.cells #[.bool false, .bool false, .bool false] 137)
  have hb2 := hb.alloc hb.size (.cells #[.bool false, .bool false, .bool false] 137)
  have hzk := (((Below.refl _ w1).alloc (Nat.le_refl _) (.cells #[.bool false, .bool false, .bool false] 137)).block _ (lt_of_block hz)).trans hz
  rw [hsz] at hz2
  generalize w1.alloc (.cells #[.bool false, .bool false, .bool false] 137) = w2 at *
  have HB := hid hb2
  have HZ := hid hzk
  have HZ2 := hid hz2
  clear hb hb2 hz hz2 hzk hsz
  have d0 := cell_in HZ2.out 0 _ rfl
  have d1 := cell_in HZ2.out 1 _ rfl
  have d2 := cell_in HZ2.out 2 _ rfl
  have d0f := free_in HZ2.out 0
  have d1f := free_in HZ2.out 1
  have d2f := free_in HZ2.out 2
  have r0 := cell_in HZ.out 0 _ rfl
  have r1 := cell_in HZ.out 1 _ rfl
  have r2 := cell_in HZ.out 2 _ rfl
  have r0f := free_in HZ.out 0
  have r1f := free_in HZ.out 1
  have r2f := free_in HZ.out 2
  by_cases h4 : s = 4
  case pos =>
    subst h4
    go_wp2_with fail
    have hk : Keep (fun k => k = w.heap.size + 1) w2 (((w2.setCell ⟨w.heap.size + 1, 0, none⟩ (.bool true)).setCell ⟨w.heap.size + 1, 1, none⟩ (.bool true)).setCell ⟨w.heap.size + 1, 2, none⟩ (.bool true)) := keepS3 _ _ _ _ _ _ _ _
    generalize ((w2.setCell ⟨w.heap.size + 1, 0, none⟩ (.bool true)).setCell ⟨w.heap.size + 1, 1, none⟩ (.bool true)).setCell ⟨w.heap.size + 1, 2, none⟩ (.bool true) = wk at *
    have hz9 := (hk.block _ (lt_of_block HZ.out) (fun e => by have e9 : w.heap.size = w.heap.size + 1 := e; omega)).trans HZ.out
    obtain ⟨p1, p2⟩ := put3 hz9 (.bool true) (.bool true) (.bool true)
    refine bodyPost_ret (results_cell_row rfl _ _ (w.heap.size) 137 _ (0, 0) _ rfl p1 Try.underlying137 rfl (by kernel_rfl)) rfl ?_
    have hk2 : Keep (fun k => k = w.heap.size + 1 ∨ k = w.heap.size) w2 _ := (hk.mono (fun k _ e => Or.inl e)).trans (p2.mono (fun k _ e => Or.inr e))
    exact ⟨rfl, HB.out.trans (hk2.below HB.out.size (fun k e => by omega))⟩
  by_cases h2 : s = 2
  case pos =>
    subst h2
    clear h4
    go_wp2_with fail
    have hk : Keep (fun k => k = w.heap.size + 1) w2 ((w2.setCell ⟨w.heap.size + 1, 1, none⟩ (.bool true)).setCell ⟨w.heap.size + 1, 2, none⟩ (.bool true)) := keepS2 _ _ _ _ _ _
    generalize (w2.setCell ⟨w.heap.size + 1, 1, none⟩ (.bool true)).setCell ⟨w.heap.size + 1, 2, none⟩ (.bool true) = wk at *
    have hz9 := (hk.block _ (lt_of_block HZ.out) (fun e => by have e9 : w.heap.size = w.heap.size + 1 := e; omega)).trans HZ.out
    obtain ⟨p1, p2⟩ := put3 hz9 (.bool false) (.bool true) (.bool true)
    refine bodyPost_ret (results_cell_row rfl _ _ (w.heap.size) 137 _ (0, 0) _ rfl p1 Try.underlying137 rfl (by kernel_rfl)) rfl ?_
    have hk2 : Keep (fun k => k = w.heap.size + 1 ∨ k = w.heap.size) w2 _ := (hk.mono (fun k _ e => Or.inl e)).trans (p2.mono (fun k _ e => Or.inr e))
    exact ⟨rfl, HB.out.trans (hk2.below HB.out.size (fun k e => by omega))⟩
  by_cases h3 : s = 3
  case pos =>
    subst h3
    clear h4 h2
    go_wp2_with fail
    have hk : Keep (fun k => k = w.heap.size + 1) w2 ((w2.setCell ⟨w.heap.size + 1, 1, none⟩ (.bool true)).setCell ⟨w.heap.size + 1, 2, none⟩ (.bool true)) := keepS2 _ _ _ _ _ _
    generalize (w2.setCell ⟨w.heap.size + 1, 1, none⟩ (.bool true)).setCell ⟨w.heap.size + 1, 2, none⟩ (.bool true) = wk at *
    have hz9 := (hk.block _ (lt_of_block HZ.out) (fun e => by have e9 : w.heap.size = w.heap.size + 1 := e; omega)).trans HZ.out
    obtain ⟨p1, p2⟩ := put3 hz9 (.bool false) (.bool true) (.bool true)
    refine bodyPost_ret (results_cell_row rfl _ _ (w.heap.size) 137 _ (0, 0) _ rfl p1 Try.underlying137 rfl (by kernel_rfl)) rfl ?_
    have hk2 : Keep (fun k => k = w.heap.size + 1 ∨ k = w.heap.size) w2 _ := (hk.mono (fun k _ e => Or.inl e)).trans (p2.mono (fun k _ e => Or.inr e))
    exact ⟨rfl, HB.out.trans (hk2.below HB.out.size (fun k e => by omega))⟩
  by_cases h5 : s = 5
  case pos =>
    subst h5
    clear h4 h2 h3
    go_wp2_with fail
    have hk : Keep (fun k => k = w.heap.size + 1) w2 ((w2.setCell ⟨w.heap.size + 1, 1, none⟩ (.bool true)).setCell ⟨w.heap.size + 1, 2, none⟩ (.bool true)) := keepS2 _ _ _ _ _ _
    generalize (w2.setCell ⟨w.heap.size + 1, 1, none⟩ (.bool true)).setCell ⟨w.heap.size + 1, 2, none⟩ (.bool true) = wk at *
    have hz9 := (hk.block _ (lt_of_block HZ.out) (fun e => by have e9 : w.heap.size = w.heap.size + 1 := e; omega)).trans HZ.out
    obtain ⟨p1, p2⟩ := put3 hz9 (.bool false) (.bool true) (.bool true)
    refine bodyPost_ret (results_cell_row rfl _ _ (w.heap.size) 137 _ (0, 0) _ rfl p1 Try.underlying137 rfl (by kernel_rfl)) rfl ?_
    have hk2 : Keep (fun k => k = w.heap.size + 1 ∨ k = w.heap.size) w2 _ := (hk.mono (fun k _ e => Or.inl e)).trans (p2.mono (fun k _ e => Or.inr e))
    exact ⟨rfl, HB.out.trans (hk2.below HB.out.size (fun k e => by omega))⟩
  by_cases h1 : s = 1
  case pos =>
    subst h1
    clear h4 h2 h3 h5
    go_wp2_with fail
    have hk : Keep (fun k => k = w.heap.size + 1) w2 (w2.setCell ⟨w.heap.size + 1, 2, none⟩ (.bool true)) := keepS1 _ _ _ _
    generalize w2.setCell ⟨w.heap.size + 1, 2, none⟩ (.bool true) = wk at *
    have hz9 := (hk.block _ (lt_of_block HZ.out) (fun e => by have e9 : w.heap.size = w.heap.size + 1 := e; omega)).trans HZ.out
    obtain ⟨p1, p2⟩ := put3 hz9 (.bool false) (.bool false) (.bool true)
    refine bodyPost_ret (results_cell_row rfl _ _ (w.heap.size) 137 _ (0, 0) _ rfl p1 Try.underlying137 rfl (by kernel_rfl)) rfl ?_
    have hk2 : Keep (fun k => k = w.heap.size + 1 ∨ k = w.heap.size) w2 _ := (hk.mono (fun k _ e => Or.inl e)).trans (p2.mono (fun k _ e => Or.inr e))
    exact ⟨rfl, HB.out.trans (hk2.below HB.out.size (fun k e => by omega))⟩
  by_cases h6 : s = 6
  case pos =>
    subst h6
    clear h4 h2 h3 h5 h1
    go_wp2_with fail
    have hk : Keep (fun k => k = w.heap.size + 1) w2 (w2.setCell ⟨w.heap.size + 1, 2, none⟩ (.bool true)) := keepS1 _ _ _ _
    generalize w2.setCell ⟨w.heap.size + 1, 2, none⟩ (.bool true) = wk at *
    have hz9 := (hk.block _ (lt_of_block HZ.out) (fun e => by have e9 : w.heap.size = w.heap.size + 1 := e; omega)).trans HZ.out
    obtain ⟨p1, p2⟩ := put3 hz9 (.bool false) (.bool false) (.bool true)
    refine bodyPost_ret (results_cell_row rfl _ _ (w.heap.size) 137 _ (0, 0) _ rfl p1 Try.underlying137 rfl (by kernel_rfl)) rfl ?_
    have hk2 : Keep (fun k => k = w.heap.size + 1 ∨ k = w.heap.size) w2 _ := (hk.mono (fun k _ e => Or.inl e)).trans (p2.mono (fun k _ e => Or.inr e))
    exact ⟨rfl, HB.out.trans (hk2.below HB.out.size (fun k e => by omega))⟩
  by_cases h7 : s = 7
  case pos =>
    subst h7
    clear h4 h2 h3 h5 h1 h6
    go_wp2_with fail
    have hk : Keep (fun k => k = w.heap.size + 1) w2 (w2.setCell ⟨w.heap.size + 1, 2, none⟩ (.bool true)) := keepS1 _ _ _ _
    generalize w2.setCell ⟨w.heap.size + 1, 2, none⟩ (.bool true) = wk at *
    have hz9 := (hk.block _ (lt_of_block HZ.out) (fun e => by have e9 : w.heap.size = w.heap.size + 1 := e; omega)).trans HZ.out
    obtain ⟨p1, p2⟩ := put3 hz9 (.bool false) (.bool false) (.bool true)
    refine bodyPost_ret (results_cell_row rfl _ _ (w.heap.size) 137 _ (0, 0) _ rfl p1 Try.underlying137 rfl (by kernel_rfl)) rfl ?_
    have hk2 : Keep (fun k => k = w.heap.size + 1 ∨ k = w.heap.size) w2 _ := (hk.mono (fun k _ e => Or.inl e)).trans (p2.mono (fun k _ e => Or.inr e))
    exact ⟨rfl, HB.out.trans (hk2.below HB.out.size (fun k e => by omega))⟩
  have HE1 : Hid (readsI s = false) := hid (by unfold readsI; simp [h4])
  have HE2 : Hid (writesI s = false) := hid (by unfold writesI; simp; try omega)
  have HE3 : Hid (deletesI s = false) := hid (by unfold deletesI; simp; try omega)
  have e4 : (s == 4) = false := by simp [h4]
  have e2 : (s == 2) = false := by simp [h2]
  have e3 : (s == 3) = false := by simp [h3]
  have e5 : (s == 5) = false := by simp [h5]
  have e1 : (s == 1) = false := by simp [h1]
  have e6 : (s == 6) = false := by simp [h6]
  have e7 : (s == 7) = false := by simp [h7]
  clear h4 h2 h3 h5 h1 h6 h7
  go_wp2_with fail
  have hk : Keep (fun k => k = w.heap.size + 1) w2 (w2) := Keep.refl _ _
  have hz9 := (hk.block _ (lt_of_block HZ.out) (fun e => by have e9 : w.heap.size = w.heap.size + 1 := e; omega)).trans HZ.out
  obtain ⟨p1, p2⟩ := put3 hz9 (.bool false) (.bool false) (.bool false)
  refine bodyPost_ret (results_cell_row rfl _ _ (w.heap.size) 137 _ (0, 0) _ rfl p1 Try.underlying137 rfl (by kernel_rfl)) rfl ?_
  have hk2 : Keep (fun k => k = w.heap.size + 1 ∨ k = w.heap.size) w2 _ := (hk.mono (fun k _ e => Or.inl e)).trans (p2.mono (fun k _ e => Or.inr e))
  exact ⟨by rw [HE1.out, HE2.out, HE3.out], HB.out.trans (hk2.below HB.out.size (fun k e => by omega))⟩

set_option maxHeartbeats 2000000 in
theorem reads_any (w : World) (s : Int) : Calls Try.prog 34 #[.int .i64 s] w (fun e w' => e = .returned (.bool (readsI s)) ∧ Below w.heap.size w w') := by
  have C := hid (does_any w s)
  have hfd : ∀ (x0 x1 x2 : Bool) (W : World), (Instr.field 137 (.agg #[.bool x0, .bool x1, .bool x2]) 0).run Try.prog W = .ok (.bool x0) W := fun _ _ _ _ => by kernel_rfl
  go_enter Try.func34, Try.ntmps34
  go_wp2_with (first | (go_at_call 114; refine C.out.mono ?_; rintro en w2 ⟨rfl, hb⟩; have HB := hid hb; clear hb))
  go_ret
  exact ⟨rfl, HB.out⟩

set_option maxHeartbeats 2000000 in
theorem writes_any (w : World) (s : Int) : Calls Try.prog 35 #[.int .i64 s] w (fun e w' => e = .returned (.bool (writesI s)) ∧ Below w.heap.size w w') := by
  have C := hid (does_any w s)
  have hfd : ∀ (x0 x1 x2 : Bool) (W : World), (Instr.field 137 (.agg #[.bool x0, .bool x1, .bool x2]) 1).run Try.prog W = .ok (.bool x1) W := fun _ _ _ _ => by kernel_rfl
  go_enter Try.func35, Try.ntmps35
  go_wp2_with (first | (go_at_call 114; refine C.out.mono ?_; rintro en w2 ⟨rfl, hb⟩; have HB := hid hb; clear hb))
  go_ret
  exact ⟨rfl, HB.out⟩

set_option maxHeartbeats 2000000 in
theorem deletes_any (w : World) (s : Int) : Calls Try.prog 36 #[.int .i64 s] w (fun e w' => e = .returned (.bool (deletesI s)) ∧ Below w.heap.size w w') := by
  have C := hid (does_any w s)
  have hfd : ∀ (x0 x1 x2 : Bool) (W : World), (Instr.field 137 (.agg #[.bool x0, .bool x1, .bool x2]) 2).run Try.prog W = .ok (.bool x2) W := fun _ _ _ _ => by kernel_rfl
  go_enter Try.func36, Try.ntmps36
  go_wp2_with (first | (go_at_call 114; refine C.out.mono ?_; rintro en w2 ⟨rfl, hb⟩; have HB := hid hb; clear hb))
  go_ret
  exact ⟨rfl, HB.out⟩

set_option maxHeartbeats 4000000 in
theorem next_any (w : World) (a b s : Int) (n : ByteArray) (x : Value) (p q : Bool) (hx : x.oneCell' = true) : Calls Try.prog 28 #[.agg #[.int .i64 a, .int .i64 b, .string n, x, .bool p, .int .i64 s, .bool q]] w (fun e w' => e = .returned (.int .i64 (nextI s)) ∧ Below w.heap.size w w') := by
  go_enter Try.func28, Try.ntmps28
  go_upto_region 1 with fail
  have hb := (Below.refl w.heap.size w).alloc (Nat.le_refl _) (.cells #[.int .i64 a, .int .i64 b, .string n, x, .bool p, .int .i64 s, .bool q] 37)
  have hz := heap_alloc_new w (.cells #[.int .i64 a, .int .i64 b, .string n, x, .bool p, .int .i64 s, .bool q] 37)
  generalize w.alloc (.cells #[.int .i64 a, .int .i64 b, .string n, x, .bool p, .int .i64 s, .bool q] 37) = w1 at *
  have HB := hid hb
  have z5 := cell_in hz 5 _ rfl
  clear hb hz
  by_cases h1 : s = 1
  · subst h1; go_wp2_with fail; go_ret; exact ⟨rfl, HB.out⟩
  by_cases h2 : s = 2
  · subst h2; clear h1; go_wp2_with fail; go_ret; exact ⟨rfl, HB.out⟩
  by_cases h3 : s = 3
  · subst h3; clear h1 h2; go_wp2_with fail; go_ret; exact ⟨rfl, HB.out⟩
  by_cases h5 : s = 5
  · subst h5; clear h1 h2 h3; go_wp2_with fail; go_ret; exact ⟨rfl, HB.out⟩
  by_cases h6 : s = 6
  · subst h6; clear h1 h2 h3 h5; go_wp2_with fail; go_ret; exact ⟨rfl, HB.out⟩
  by_cases h4 : s = 4
  · subst h4; clear h1 h2 h3 h5 h6; go_wp2_with fail; go_ret; exact ⟨rfl, HB.out⟩
  have HR : Hid (nextI s = 0) := hid (by unfold nextI; simp [h1, h2, h3, h4, h5, h6])
  have e1 : (s == 1) = false := by simp [h1]
  have e2 : (s == 2) = false := by simp [h2]
  have e3 : (s == 3) = false := by simp [h3]
  have e4 : (s == 4) = false := by simp [h4]
  have e5 : (s == 5) = false := by simp [h5]
  have e6 : (s == 6) = false := by simp [h6]
  clear h1 h2 h3 h4 h5 h6
  go_wp2_with fail
  go_ret
  exact ⟨by rw [HR.out]; rfl, HB.out⟩

/-- The law's catalog, and its table. -/
def cat1 : Cat := ⟨0, 1, [], []⟩
def tab1 : Tab := ⟨0, [116], [⟨[97], 1, false⟩], [0]⟩
def cat2 : Cat := ⟨1, 2, [⟨1, [116], [⟨[97], 1, false⟩], [0]⟩], []⟩
theorem awake_add : addTableM cat1 tab1 = (cat2, 0) := by decide
theorem awake_cat : catB cat2 = true := by decide
theorem cat2_W : cat2.W := by
  refine ⟨⟨by decide, by decide⟩, ⟨by decide, by decide⟩, (fun t ht => ?_), (fun x hx => by cases hx), by decide, by decide⟩
  simp only [cat2, List.mem_cons, List.not_mem_nil, or_false] at ht
  subst ht
  refine ⟨⟨by decide, by decide⟩, (show _ ≤ _ by decide), (fun c hc => ?_), (fun z hz => ?_), by decide, by decide⟩
  · simp only [List.mem_cons, List.not_mem_nil, or_false] at hc; subst hc; exact ⟨(show _ ≤ _ by decide), by decide, by decide⟩
  · simp only [List.mem_cons, List.not_mem_nil, or_false] at hz; subst hz; exact ⟨by decide, by decide⟩
theorem tab1_W : tab1.W := by
  refine ⟨⟨by decide, by decide⟩, (show _ ≤ _ by decide), (fun c hc => ?_), (fun z hz => ?_), by decide, by decide⟩
  · simp only [tab1, List.mem_cons, List.not_mem_nil, or_false] at hc; subst hc; exact ⟨(show _ ≤ _ by decide), by decide, by decide⟩
  · simp only [tab1, List.mem_cons, List.not_mem_nil, or_false] at hz; subst hz; exact ⟨by decide, by decide⟩
theorem cat1_S : cat1.S := ⟨by decide, by decide, (fun t ht => by cases ht), (fun x hx => by cases hx)⟩
theorem LstN.nil {α : Type} (R : World → List Value → α → Prop) (n : Nat) (N : Nat → Prop) (w : World) : LstN R n N w (.slice none 0 0) [] :=
  ⟨[], rfl, Rws.nil n w, fun i r a h => by simp at h, fun h => absurd rfl h⟩
theorem cat1_in (w : World) : CatN (fun _ => True) w [.int .i64 0, .int .i64 1, .slice none 0 0, .slice none 0 0] cat1 := ⟨_, _, rfl, LstN.nil _ _ _ _, LstN.nil _ _ _ _, rfl, rfl⟩

set_option maxHeartbeats 8000000 in
theorem awake_any (w : World) : Calls Try.prog 14 #[] w (fun e w' => e = .returned (.bool true) ∧ Below w.heap.size w w') := by
  have hb1 := (Below.refl w.heap.size w).alloc (Nat.le_refl _) (.cells #[.string ⟨#[97]⟩, .int .i64 1, .bool false] 123)
  have hr1 : Rws 3 (w.alloc (.cells #[.string ⟨#[97]⟩, .int .i64 1, .bool false] 123)) (.slice (some ⟨w.heap.size, 0, none⟩) 1 1) [[.string ⟨#[97]⟩, .int .i64 1, .bool false]] := Rws.one rfl ⟨rfl, fun u hu => by simp only [List.mem_cons, List.not_mem_nil, or_false] at hu; rcases hu with rfl | rfl | rfl <;> rfl⟩
  have hsz : (w.alloc (.cells #[.string ⟨#[97]⟩, .int .i64 1, .bool false] 123)).heap.size = w.heap.size + 1 := by simp
  have HS1 := hid hsz
  have HB1 := hid hb1
  have HR1 := hid hr1
  clear hb1 hr1 hsz
  go_enter Try.func14, Try.ntmps14
  have HA : Hid (Calls Try.prog 32 #[.agg #[.int .i64 0, .int .i64 1, .slice none 0 0, .slice none 0 0], .agg #[.int .i64 0, .string ⟨#[116]⟩, .slice (some ⟨w.heap.size, 0, none⟩) 1 1, .slice (some ⟨w.heap.size + 1, 0, none⟩) 1 1]] ((w.alloc (.cells #[.string ⟨#[97]⟩, .int .i64 1, .bool false] 123)).alloc (.cells #[.int .i64 0] 3)) (ChN ((w.alloc (.cells #[.string ⟨#[97]⟩, .int .i64 1, .bool false] 123)).alloc (.cells #[.int .i64 0] 3)) (cat2, 0))) := hid (by
    have hsz := HS1.out
    have hr1 := HR1.out
    generalize w.alloc (.cells #[.string ⟨#[97]⟩, .int .i64 1, .bool false] 123) = w1 at *
    have h9 := addTable_any (N := fun _ => True) (Nt := fun _ => True) (cs := [.int .i64 0, .int .i64 1, .slice none 0 0, .slice none 0 0]) (ts := [.int .i64 0, .string ⟨#[116]⟩, .slice (some ⟨w.heap.size, 0, none⟩) 1 1, .slice (some ⟨w.heap.size + 1, 0, none⟩) 1 1]) (cat1_in (w1.alloc (.cells #[.int .i64 0] 3))) cat1_S ⟨by decide, by decide⟩ (by decide)
      (t := tab1) ⟨_, _, rfl, ⟨hr1.old ((Below.refl _ _).alloc (Nat.le_refl _) _), fun _ _ _ => trivial⟩, ⟨Rws.one hsz.symm ⟨rfl, fun u hu => by simp only [List.mem_cons, List.not_mem_nil, or_false] at hu; subst hu; rfl⟩, fun _ _ _ => trivial⟩, rfl, rfl⟩ tab1_W ⟨by decide, by decide⟩
    rw [awake_add] at h9
    exact h9)
  have HB2 : Hid (Below w.heap.size w ((w.alloc (.cells #[.string ⟨#[97]⟩, .int .i64 1, .bool false] 123)).alloc (.cells #[.int .i64 0] 3))) := hid (HB1.out.alloc HB1.out.size _)
  clear HR1 HS1
  go_upto_region 2 with (first | (go_at_call 32; refine HA.out.mono ?_; rintro en w4 ⟨vs, rfl, hb4, hc4⟩
                                  obtain ⟨a, c, a', c', rfl⟩ : ∃ a c a' c', vs = [.int .i64 1, .int .i64 2, .slice a 1 c, .slice a' 0 c'] := cat_form hc4
                                  have HB4 := hid (below_step HB2.out hb4)
                                  have HC4 := hid hc4
                                  clear hb4 hc4))
  have hb5 := (Below.refl w4.heap.size w4).alloc (Nat.le_refl _) (.cells #[.int .i64 1, .int .i64 2, .slice a 1 c, .slice a' 0 c'] 25)
  have hz5 := heap_alloc_new w4 (.cells #[.int .i64 1, .int .i64 2, .slice a 1 c, .slice a' 0 c'] 25)
  generalize w4.alloc (.cells #[.int .i64 1, .int .i64 2, .slice a 1 c, .slice a' 0 c'] 25) = w5 at *
  have HB5 := hid (below_step HB4.out hb5)
  have CR := hid (right_any (HC4.out.old hb5) cat2_W)
  rw [awake_cat] at CR
  have z0 := cell_in hz5 0 _ rfl
  have z1 := cell_in hz5 1 _ rfl
  have z2 := cell_in hz5 2 _ rfl
  have z3 := cell_in hz5 3 _ rfl
  clear hb5 hz5
  go_wp2_with (first | (go_at_call 16; refine CR.out.mono ?_; rintro en w6 ⟨rfl, hb6⟩; have HB6 := hid (below_step HB5.out hb6); clear hb6))
  go_ret
  exact ⟨rfl, HB6.out⟩
end Go.Proofs.Ytafcbelkhhjcoaa
