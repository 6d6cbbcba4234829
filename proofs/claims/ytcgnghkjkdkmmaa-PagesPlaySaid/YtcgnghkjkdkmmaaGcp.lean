/-
  PAGES: CopyPair.
-/
import Derived.Test.YtcgnghkjkdkmmaaGlh
set_option linter.unusedVariables false
namespace Go.Proofs.Ytcgnghkjkdkmmaa
open Go.RowKit Go.Shelf

set_option maxHeartbeats 4000000 in
set_option maxRecDepth 100000 in
theorem copyP_any (m : Lp) (w : World) (hm : RdP w m) (h1 : m.key.length ≤ 140737488355328) (h2 : m.val.length ≤ 140737488355328) :
    Calls Try.prog 19 #[pv m] w (CopyA m w) := by
  have HM := hid hm
  have o1 := one_rd hm.1
  have o2 := one_rd hm.2
  clear hm
  have HK0 : Hid (KC w.heap.size m w ((w.alloc (.cells #[.slice m.ka m.key.length m.kc, .slice m.va m.val.length m.vc, .int .i64 m.ver] 31)).alloc (.cells #[.slice none 0 0, .slice none 0 0, .int .i64 0] 31))) :=
    ⟨((Below.refl w.heap.size w).alloc (Nat.le_refl _) _).alloc (by simp) _, (Below.heap_alloc _ _ _ (by simp)).trans (heap_alloc_new _ _), _, _, _, heap_alloc2_new _ _ _⟩
  unfold pv
  go_enter Try.func19, Try.ntmps19
  go_wp2_with fail
  generalize (w.alloc (.cells #[.slice m.ka m.key.length m.kc, .slice m.va m.val.length m.vc, .int .i64 m.ver] 31)).alloc (.cells #[.slice none 0 0, .slice none 0 0, .int .i64 0] 31) = w2 at *
  have CK : Hid (∀ W, KC w.heap.size m w W → Calls Try.prog 36 #[.slice m.ka m.key.length m.kc] W (Gives 5 W m.key)) := fun W h => copyB_any W _ _ (HM.out.1.old h.below) h1
  have CV : Hid (∀ W, KC w.heap.size m w W → Calls Try.prog 36 #[.slice m.va m.val.length m.vc] W (Gives 5 W m.val)) := fun W h => copyB_any W _ _ (HM.out.2.old h.below) h2
  obtain ⟨-, c0, c1, c2, s0, s1, s2, f0, f1, f2⟩ := HK0.out.facts
  go_region_held3 (fun W => Hid (KC w.heap.size m w W) ∧ W.cell? ⟨w.heap.size, 0, none⟩ = some (.slice m.ka m.key.length m.kc) ∧ W.cell? ⟨w.heap.size, 1, none⟩ = some (.slice m.va m.val.length m.vc) ∧ W.cell? ⟨w.heap.size, 2, none⟩ = some (.int .i64 m.ver) ∧
    W.cell? ⟨w.heap.size + 1, 0, none⟩ = some (valAt W ⟨w.heap.size + 1, 0, none⟩) ∧ W.cell? ⟨w.heap.size + 1, 1, none⟩ = some (valAt W ⟨w.heap.size + 1, 1, none⟩) ∧ W.cell? ⟨w.heap.size + 1, 2, none⟩ = some (valAt W ⟨w.heap.size + 1, 2, none⟩) ∧
    W.frozen? ⟨w.heap.size + 1, 0, none⟩ = false ∧ W.frozen? ⟨w.heap.size + 1, 1, none⟩ = false ∧ W.frozen? ⟨w.heap.size + 1, 2, none⟩ = false)
    (first | (go_split_ands; first | exact KC.facts (KC.drew HK0.out) | exact KC.facts (KC.call (by assumption : Hid (KC _ _ _ _)).out (by assumption)) | exact KC.facts (KC.set (by assumption : Hid (KC _ _ _ _)).out _ _ _)) | go_keep)
    (first
      | (go_at_call 36; go_split_ands; with_reducible refine (CK.out _ (by assumption : Hid (KC _ _ _ _)).out).mono ?_; intro e wk hgk; obtain ⟨ak, ck, rfl, ok, bk⟩ := hgk.elim; clear hgk; have OK1 := hid ok; clear ok)
      | (go_at_call 36; go_split_ands; with_reducible refine (CV.out _ (by assumption : Hid (KC _ _ _ _)).out).mono ?_; intro e wv hgv; obtain ⟨av, cv, rfl, ov, bv'⟩ := hgv.elim; clear hgv; have OV1 := hid ov; clear ov))
  all_goals (go_wp2_with fail)
  have hk1 := KC.call (KC.drew HK0.out) bk
  have hk2 := KC.call hk1 bv'
  obtain ⟨u, v, z, hu⟩ := hk2.res
  have hb2 := lt_of_block hk1.box
  have hn : w.heap.size + 1 < w2.heap.size := by obtain ⟨_, _, _, h9⟩ := HK0.out.res; exact lt_of_block h9
  have hkb : ∀ k, (Value.slice ak m.key.length ck).ownBlock = some k → w2.heap.size ≤ k ∧ k < wk.heap.size := fun k hk => OK1.out.lt k hk
  have hvb : ∀ k, (Value.slice av m.val.length cv).ownBlock = some k → wk.heap.size ≤ k ∧ k < wv.heap.size := fun k hk => OV1.out.lt k hk
  refine bodyPost_ret (results_cell_row rfl _ _ (w.heap.size + 1) 31 _ (0, 0) _ rfl (three_set hu) Try.underlying31 rfl (by kernel_rfl)) rfl ?_
  refine ⟨⟨ak, ck, av, cv, m.key, m.val, m.ver⟩, ⟨rfl, rfl, rfl⟩, rfl, ⟨?_, ?_, ?_⟩, (hk2.set _ _ _).below⟩
  · exact own_set3 (own_old (ownsRow_base OK1.out (by show w.heap.size ≤ w2.heap.size; omega)) bv') (fun k hk => by have := hkb k hk; omega)
  · exact own_set3 (ownsRow_base OV1.out (by have := bk.size; show w.heap.size ≤ wk.heap.size; have h5 : w2.drew.heap.size = w2.heap.size := rfl; omega)) (fun k hk => by have := hvb k hk; have := bk.size; have h5 : w2.drew.heap.size = w2.heap.size := rfl; omega)
  · intro a b ha hb
    simp only at ha hb
    subst ha hb
    have := hkb a.block rfl
    have := hvb b.block rfl
    omega
end Go.Proofs.Ytcgnghkjkdkmmaa
