/-
  THE DOCUMENT'S DISK (armoireref05): in memory; New, hit, Start, Show, Read.
-/
import Derived.Test.YtihholgdpmbkeaaDc
import Derived.LoopN
set_option linter.unusedVariables false
set_option maxRecDepth 100000
namespace Go.Proofs.Ytihholgdpmbkeaa
open Go.RowKit

/-- What shows, of what is kept and of what waits. -/
def shM (T : List (List UInt8)) (Q : List Wr) : List (List UInt8) := Q.foldl (fun S x => S.set x.at' x.now) T
theorem sh_len (T : List (List UInt8)) (Q : List Wr) : (shM T Q).length = T.length := by
  unfold shM
  induction Q generalizing T with
  | nil => rfl
  | cons x Q ih => rw [List.foldl_cons, ih, List.length_set]
theorem sh_one (T : List (List UInt8)) (Q : List Wr) (x : Wr) : shM T (Q ++ [x]) = (shM T Q).set x.at' x.now := by unfold shM; rw [List.foldl_append]; rfl
theorem sh_all {T : List (List UInt8)} (h : ∀ s ∈ T, s.length = 64) {Q : List Wr} (hq : ∀ x ∈ Q, x.now.length = 64) : ∀ s ∈ shM T Q, s.length = 64 := by
  unfold shM
  induction Q generalizing T with
  | nil => exact h
  | cons x Q ih =>
    rw [List.foldl_cons]
    refine ih (fun s hs => ?_) (fun y hy => hq y (by simp [hy]))
    rcases List.mem_or_eq_of_mem_set hs with hs | rfl
    · exact h s hs
    · exact hq x (by simp)
/-- What shows at a place that none of the writes behind speaks of. -/
theorem sh_skip (T : List (List UInt8)) (Q R : List Wr) (k : Nat) (h : ∀ x ∈ R, x.at' ≠ k) : (shM T (Q ++ R))[k]? = (shM T Q)[k]? := by
  induction R generalizing Q with
  | nil => rw [List.append_nil]
  | cons x R ih =>
    rw [show Q ++ x :: R = (Q ++ [x]) ++ R from by simp, ih (Q ++ [x]) (fun y hy => h y (by simp [hy])), sh_one, List.getElem?_set_ne (h x (by simp))]

def row65 (x : Wr) : List Value := .int .i64 x.at' :: x.now.map bv
theorem row65_one (x : Wr) : ∀ v ∈ row65 x, v.oneCell' = true := fun v hv => by
  unfold row65 at hv
  rcases List.mem_cons.1 hv with rfl | hv
  · rfl
  · exact bv_one _ v hv

/-- The document's disk: its block, its sectors' block, what waits (a row of its own). -/
structure Rk (w : World) (rb tb n : Nat) (wv : Value) (T : List (List UInt8)) (Q : List Wr) (dn : Bool) (lf : Nat) : Prop where
  hd : w.heap[rb]? = some (.cells #[.slice (some ⟨tb, 0, none⟩) n n, wv, .int .i64 (lf : Int), .bool dn] 42 (0, 0))
  sh : w.heap[tb]? = some (.cells (T.flatten.map bv).toArray 64 (0, 0))
  wa : w.ownsRow 0 68 65 wv Q.length (Q.map row65).flatten
  len : ∀ s ∈ T, s.length = 64
  ok : ∀ x ∈ Q, x.at' < n ∧ x.now.length = 64
  few : T.length = n ∧ n ≤ 65536

section
variable {w : World} {rb tb n : Nat} {wv : Value} {T : List (List UInt8)} {Q : List Wr} {dn : Bool} {lf : Nat}
theorem Rk.old {w' : World} (h : Rk w rb tb n wv T Q dn lf) (hb : Below w.heap.size w w') : Rk w' rb tb n wv T Q dn lf :=
  ⟨(hb.block _ (lt_of_block h.hd)).trans h.hd, (hb.block _ (lt_of_block h.sh)).trans h.sh, own_old h.wa hb, h.len, h.ok, h.few⟩
theorem Rk.kept {X : Nat → Prop} {w' : World} (h : Rk w rb tb n wv T Q dn lf) (hk : Keep X w w') (hx : ∀ k, DX rb tb wv k → ¬ X k) : Rk w' rb tb n wv T Q dn lf :=
  ⟨(hk.block _ (lt_of_block h.hd) (hx _ (.inl rfl))).trans h.hd, (hk.block _ (lt_of_block h.sh) (hx _ (.inr (.inl rfl)))).trans h.sh, own_keep h.wa hk (fun k e => hx k (.inr (.inr e))), h.len, h.ok, h.few⟩
theorem Rk.lt (h : Rk w rb tb n wv T Q dn lf) : ∀ k, DX rb tb wv k → k < w.heap.size := fun k hk => by
  rcases hk with rfl | rfl | hk
  · exact lt_of_block h.hd
  · exact lt_of_block h.sh
  · exact (h.wa.lt k hk).2
theorem Rk.apart (h : Rk w rb tb n wv T Q dn lf) : rb ≠ tb ∧ wv.ownBlock ≠ some rb ∧ wv.ownBlock ≠ some tb := by
  refine ⟨fun e => ?_, fun e => ?_, fun e => ?_⟩
  · have h1 := h.hd
    rw [e, h.sh] at h1
    simp at h1
  · rcases h.wa.2 with ⟨rfl, _⟩ | ⟨g, cap, cur, rfl, _, hg, _⟩
    · cases e
    · have : g = rb := by simpa [Value.ownBlock] using e
      subst this
      rw [h.hd] at hg
      simp at hg
  · rcases h.wa.2 with ⟨rfl, _⟩ | ⟨g, cap, cur, rfl, _, hg, _⟩
    · cases e
    · have : g = tb := by simpa [Value.ownBlock] using e
      subst this
      rw [h.sh] at hg
      simp at hg
theorem Rk.rows (h : Rk w rb tb n wv T Q dn lf) : Rws 65 w wv (Q.map row65) :=
  Rws.own (by rw [List.length_map]; exact h.wa) (fun r hr => by
    obtain ⟨y, hy, rfl⟩ := List.mem_map.1 hr
    have := h.ok y hy
    exact ⟨by simp [row65, this.2], row65_one y⟩)
theorem Rk.form (h : Rk w rb tb n wv T Q dn lf) : ∃ ao c, wv = .slice ao Q.length c := by
  rcases h.wa.2 with ⟨rfl, h0⟩ | ⟨g, cap, cur, rfl, _⟩
  · rw [h0]; exact ⟨_, _, rfl⟩
  · exact ⟨_, _, rfl⟩
theorem Rk.set3 (h : Rk w rb tb n wv T Q dn lf) (b : Bool) : Rk (w.setCell ⟨rb, 3, none⟩ (.bool b)) rb tb n wv T Q b lf := by
  have h1 := set_at (k := 3) (.bool b) h.hd
  exact ⟨h1, (Below.heap_setCell _ ⟨rb, 3, none⟩ _ tb (fun e => h.apart.1 e.symm)).trans h.sh, h.wa.kept (grown_set w ⟨rb, 3, none⟩ (.bool b)) (.inr h.apart.2.1), h.len, h.ok, h.few⟩
theorem Rk.set2 (h : Rk w rb tb n wv T Q dn lf) (m : Nat) : Rk (w.setCell ⟨rb, 2, none⟩ (.int .i64 (m : Int))) rb tb n wv T Q dn m := by
  have h1 := set_at (k := 2) (.int .i64 (m : Int)) h.hd
  exact ⟨h1, (Below.heap_setCell _ ⟨rb, 2, none⟩ _ tb (fun e => h.apart.1 e.symm)).trans h.sh, h.wa.kept (grown_set w ⟨rb, 2, none⟩ (.int .i64 (m : Int))) (.inr h.apart.2.1), h.len, h.ok, h.few⟩
theorem Rk.set1 (h : Rk w rb tb n wv T Q dn lf) : Rk (w.setCell ⟨rb, 1, none⟩ (.slice none 0 0)) rb tb n (.slice none 0 0) T [] dn lf :=
  ⟨set_at _ h.hd, (Below.heap_setCell _ ⟨rb, 1, none⟩ _ tb (by exact fun e => h.apart.1 e.symm)).trans h.sh, World.ownsRow_nil _ _ _ _, h.len, (fun x hx => by cases hx), h.few⟩

set_option maxHeartbeats 2000000 in
theorem hit_any (h : Rk w rb tb n wv T Q false lf) (hlf : lf ≤ 9223372036854775807) : Calls Try.prog 37 #[.pointer (some ⟨rb, 0, none⟩)] w (fun e w' => e = .returned (.bool (hitD lf)) ∧ Rk w' rb tb n wv T Q (hitD lf) (lf - 1) ∧ Dfr rb tb wv wv w w') := by
  obtain ⟨c0, c1, c2, c3, f0, f1, f2, f3⟩ := four_cells h.hd
  by_cases h0 : lf = 0
  · subst h0
    have H := hid h
    clear h
    go_enter Try.func37, Try.ntmps37
    go_wp2_with fail
    go_ret
    exact ⟨rfl, H.out, Dfr.refl _ _ _ _⟩
  · obtain ⟨m, rfl⟩ : ∃ m, lf = m + 1 := ⟨lf - 1, by omega⟩
    have hz : (0 : Int) < ((m + 1 : Nat) : Int) := by omega
    have hw : IntKind.i64.wrap (((m + 1 : Nat) : Int) - 1) = (m : Int) := by rw [IntKind.wrap_i64]; omega
    have h3 := h.set2 m
    obtain ⟨d0, d1, d2, d3, k0, k1, k2, k3⟩ := four_cells h3.hd
    by_cases hm : m = 0
    · subst hm
      have H4 := hid (h3.set3 true)
      clear h h3
      go_enter Try.func37, Try.ntmps37
      go_wp2_with fail
      go_ret
      exact ⟨rfl, H4.out, (Dfr.set _ _ _ _ 2 _).trans (Dfr.set _ _ _ _ 3 _)⟩
    · have hm0 : ¬ ((m : Int) = 0) := by omega
      have H3 := hid h3
      have HE : Hid (hitD (m + 1) = false) := decide_eq_false (by omega)
      clear h h3
      go_enter Try.func37, Try.ntmps37
      go_wp2_with fail
      go_ret
      rw [HE.out]
      exact ⟨rfl, H3.out, Dfr.set _ _ _ _ 2 _⟩

set_option maxHeartbeats 2000000 in
theorem rstart_any (h : Rk w rb tb n wv T Q dn lf) : Calls Try.prog 21 #[.pointer (some ⟨rb, 0, none⟩)] w (fun e w' => e = .returned (.tuple #[]) ∧ ∃ wv', Rk w' rb tb n wv' T (stQ dn Q) false 0 ∧ Dfr rb tb wv wv' w w') := by
  obtain ⟨c0, c1, c2, c3, f0, f1, f2, f3⟩ := four_cells h.hd
  have h2 := h.set2 0
  obtain ⟨d0, d1, d2, d3, k0, k1, k2, k3⟩ := four_cells h2.hd
  have F2 : Dfr rb tb wv wv w (w.setCell ⟨rb, 2, none⟩ (.int .i64 ((0 : Nat) : Int))) := Dfr.set _ _ _ _ 2 _
  cases dn
  · have H2 := hid h2
    have HF := hid F2
    clear h h2 F2
    go_enter Try.func21, Try.ntmps21
    go_wp2_with fail
    go_end0
    exact ⟨rfl, wv, H2.out.set3 false, HF.out.trans (Dfr.set _ _ _ _ 3 _)⟩
  · have h1 := h2.set1
    obtain ⟨g0, g1, g2, g3, j0, j1, j2, j3⟩ := four_cells h1.hd
    have H1 := hid h1
    have HF := hid F2
    clear h h2 h1 F2
    go_enter Try.func21, Try.ntmps21
    go_wp2_with fail
    go_end0
    exact ⟨rfl, _, H1.out.set3 false, (HF.out.trans (Dfr.set _ _ _ _ 1 _).nil).trans (Dfr.set _ _ _ _ 3 _)⟩
end

theorem info_64 : (Try.prog.info? 64).map (fun i => (i.size, i.bytes)) = some (64, 64) := by kernel_rfl
theorem zero_64 : (Try.prog.info? 64).bind (·.zero) = some (.agg (Array.replicate 64 (.int .u8 0))) := by kernel_rfl

theorem run_made64 (n : Nat) (hn : n ≤ 65536) (w : World) : (Instr.makeSlice 39 (.int .i64 (n : Int)) (.int .i64 (n : Int))).run Try.prog w =
    .ok (.slice (some ⟨w.heap.size, 0, none⟩) n n) (w.alloc (.cells ((List.replicate n (List.replicate 64 (0 : UInt8))).flatten.map bv).toArray 64)) := by
  obtain ⟨i, hi, h1⟩ := Option.map_eq_some_iff.1 info_64
  simp only [Prod.mk.injEq] at h1
  obtain ⟨hs, hb⟩ := h1
  have hz : i.zero = some (.agg (Array.replicate 64 (.int .u8 0))) := by
    have := zero_64
    rw [hi] at this
    exact this
  have hr := run_make (P := Try.prog) w 39 64 i _ Try.underlying39 hi hz .i64 .i64 n n (by omega) (Int.le_refl _) (by rw [hb]; omega) (by omega)
  rw [hr]
  simp only [Int.toNat_natCast, hs, Value.cells, made_sectors]

theorem rnew_any (n : Nat) (h2 : n ≤ 65536) (w : World) : Calls Try.prog 9 #[.int .i64 (n : Int)] w (fun e w' => ∃ rb tb, e = .returned (.pointer (some ⟨rb, 0, none⟩)) ∧ Rk w' rb tb n (.slice none 0 0) (List.replicate n (List.replicate 64 0)) [] false 0 ∧ w.heap.size ≤ rb ∧ w.heap.size ≤ tb ∧ Below w.heap.size w w') := by
  have hm := run_made64 n h2
  obtain ⟨L, hL⟩ : ∃ L, L = ((List.replicate n (List.replicate 64 (0 : UInt8))).flatten.map bv).toArray := ⟨_, rfl⟩
  rw [← hL] at hm
  have HL := hid hL
  clear hL
  go_enter Try.func9, Try.ntmps9
  go_wp2_with fail
  go_ret
  have hb : Below w.heap.size w ((w.alloc (.cells L 64)).alloc (.cells #[.slice (some ⟨w.heap.size, 0, none⟩) n n, .slice none 0 0, .int .i64 0, .bool false] 42)) := ((Below.refl _ _).alloc (Nat.le_refl _) _).alloc (by simp) _
  refine ⟨w.heap.size + 1, w.heap.size, rfl, ⟨?_, ?_, World.ownsRow_nil _ _ _ _, (fun s hs => by rw [(List.mem_replicate.1 hs).2, List.length_replicate]), (fun x hx => by cases hx), by rw [List.length_replicate]; exact ⟨rfl, h2⟩⟩, by omega, Nat.le_refl _, hb⟩
  · have h := heap_alloc_new (w.alloc (.cells L 64)) (.cells #[.slice (some ⟨w.heap.size, 0, none⟩) n n, .slice none 0 0, .int .i64 0, .bool false] 42)
    rw [show (w.alloc (.cells L 64)).heap.size = w.heap.size + 1 from by simp] at h
    exact h
  · rw [← HL.out]
    exact (Below.heap_alloc _ _ _ (by simp)).trans (heap_alloc_new _ _)
end Go.Proofs.Ytihholgdpmbkeaa
