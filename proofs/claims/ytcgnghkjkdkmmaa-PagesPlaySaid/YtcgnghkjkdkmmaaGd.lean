/-
  PAGES: bytes.Clone; copied.
-/
import Derived.Test.YtcgnghkjkdkmmaaGc
import Derived.Lib.Bytes
set_option linter.unusedVariables false
namespace Go.Proofs.Ytcgnghkjkdkmmaa
open Go.RowKit Go.Shelf

set_option maxHeartbeats 1000000 in
set_option maxRecDepth 100000 in
theorem clone_any (w : World) (x : Value) (l : List UInt8) (h : Rd w x l) (hl : l.length ≤ 140737488355328) :
    Calls Try.prog 49 #[x] w (Gives 5 w l) := by
  obtain ⟨ao, c, rfl, h1, h2, h3, h4⟩ := h
  cases ao with
  | none =>
    have hc := h3 rfl
    obtain rfl : l = [] := List.eq_nil_of_length_eq_zero (by omega)
    subst hc
    have heq := fun W => Lib.run_eql_slice_nil (P := Try.prog) W 23 5 none 0 0 0 0 Try.underlying23
    go_enter Try.func49, Try.ntmps49
    go_wp2_with fail
    go_ret
    exact ⟨_, rfl, World.ownsRow_nil _ _ _ _, Below.refl _ _⟩
  | some a =>
    have HR : Hid (Rd w (.slice (some a) l.length c) l) := ⟨some a, c, rfl, h1, h2, h3, h4⟩
    have heq := fun W => Lib.run_eql_slice_nil (P := Try.prog) W 23 5 (some a) l.length c 0 0 Try.underlying23
    have hown : (w.alloc (.cells #[] 5)).ownsRow w.heap.size 5 1 (.slice (some ⟨w.heap.size, 0, none⟩) 0 0) 0 [] := World.ownsRow_made w #[] 0 (Nat.le_refl _) (by decide) rfl
    have HR2 := HR.out.alloc (.cells #[] 5)
    clear h3 h4
    go_enter Try.func49, Try.ntmps49
    go_wp2_with (first
      | (at_builtin; refine wp_app rfl _ _ 23 rfl w.heap.size 5 Try.underlying23 (by kernel_rfl) _ _ _ rfl hown _ l rfl HR2 ?c1 ?c2 ?_))
    case c1 => omega
    case c2 => simp
    intro v' w1 hown' hgrow
    have hb : Below w.heap.size w w1 := ((Below.refl _ _).alloc (Nat.le_refl _) _).grown hgrow (by simp) (fun k hk => by simp [Value.ownBlock] at hk; omega)
    clear hgrow hown HR2
    go_wp2
    go_ret
    exact ⟨_, rfl, by simpa using hown', hb⟩

theorem three_cells {w : World} {b : Nat} {x y z : Value} {t : TypeId} (h : w.heap[b]? = some (.cells #[x, y, z] t (0, 0))) :
    w.cell? ⟨b, 0, none⟩ = some x ∧ w.cell? ⟨b, 1, none⟩ = some y ∧ w.cell? ⟨b, 2, none⟩ = some z ∧ w.frozen? ⟨b, 0, none⟩ = false ∧ w.frozen? ⟨b, 1, none⟩ = false ∧ w.frozen? ⟨b, 2, none⟩ = false := by
  simp [World.cell?, World.frozen?, h]
theorem three_set0 {w : World} {b : Nat} {x y z u : Value} {t : TypeId} (h : w.heap[b]? = some (.cells #[x, y, z] t (0, 0))) : (w.setCell ⟨b, 0, none⟩ u).heap[b]? = some (.cells #[u, y, z] t (0, 0)) := by
  have hlt := lt_of_block h
  have h' : w.heap[b] = .cells #[x, y, z] t (0, 0) := by simpa [Array.getElem?_eq_getElem hlt] using h
  show (w.heap.modify b _)[b]? = _
  rw [Array.getElem?_eq_getElem (by simpa using hlt), Array.getElem_modify_self, h']
  rfl
theorem three_set1 {w : World} {b : Nat} {x y z u : Value} {t : TypeId} (h : w.heap[b]? = some (.cells #[x, y, z] t (0, 0))) : (w.setCell ⟨b, 1, none⟩ u).heap[b]? = some (.cells #[x, u, z] t (0, 0)) := by
  have hlt := lt_of_block h
  have h' : w.heap[b] = .cells #[x, y, z] t (0, 0) := by simpa [Array.getElem?_eq_getElem hlt] using h
  show (w.heap.modify b _)[b]? = _
  rw [Array.getElem?_eq_getElem (by simpa using hlt), Array.getElem_modify_self, h']
  rfl
theorem three_set2 {w : World} {b : Nat} {x y z u : Value} {t : TypeId} (h : w.heap[b]? = some (.cells #[x, y, z] t (0, 0))) : (w.setCell ⟨b, 2, none⟩ u).heap[b]? = some (.cells #[x, y, u] t (0, 0)) := by
  have hlt := lt_of_block h
  have h' : w.heap[b] = .cells #[x, y, z] t (0, 0) := by simpa [Array.getElem?_eq_getElem hlt] using h
  show (w.heap.modify b _)[b]? = _
  rw [Array.getElem?_eq_getElem (by simpa using hlt), Array.getElem_modify_self, h']
  rfl
theorem three_set {w : World} {b : Nat} {x y z u v s : Value} {t : TypeId} (h : w.heap[b]? = some (.cells #[x, y, z] t (0, 0))) :
    (((w.setCell ⟨b, 0, none⟩ u).setCell ⟨b, 1, none⟩ v).setCell ⟨b, 2, none⟩ s).heap[b]? = some (.cells #[u, v, s] t (0, 0)) := three_set2 (three_set1 (three_set0 h))

/-- A pair whose bytes are a call's own. -/
structure Mine (base : Nat) (w : World) (m : Lp) : Prop where
  k : w.ownsRow base 5 1 (.slice m.ka m.key.length m.kc) m.key.length (m.key.map bv)
  v : w.ownsRow base 5 1 (.slice m.va m.val.length m.vc) m.val.length (m.val.map bv)
  apart : ∀ a b, m.ka = some a → m.va = some b → a.block ≠ b.block

theorem Mine.rd {base : Nat} {w : World} {m : Lp} (h : Mine base w m) : RdP w m := ⟨Rd.own h.k, Rd.own h.v⟩

/-- The same pair, wherever it lies. -/
def Alike (a b : Lp) : Prop := a.key = b.key ∧ a.val = b.val ∧ a.ver = b.ver

def CopyA (m : Lp) (w : World) (e : Ending) (w' : World) : Prop := ∃ m' : Lp, Alike m' m ∧ e = .returned (pv m') ∧ Mine w.heap.size w' m' ∧ Below w.heap.size w w'

/-- What copied holds on its way. -/
structure KC (n : Nat) (m : Lp) (w W : World) : Prop where
  below : Below n w W
  box : W.heap[n]? = some (.cells (rowP m).toArray 31 (0, 0))
  res : ∃ u v z, W.heap[n + 1]? = some (.cells #[u, v, z] 31 (0, 0))

theorem KC.drew {n m w W} (h : KC n m w W) : KC n m w W.drew := ⟨Below.drew h.below, h.box, h.res⟩
theorem KC.call {n m w W W'} (h : KC n m w W) (hb : Below W.heap.size W W') : KC n m w W' := by
  obtain ⟨u, v, z, hu⟩ := h.res
  exact ⟨h.below.trans (hb.mono (Nat.le_of_lt (lt_of_block h.box))), (hb.block _ (lt_of_block h.box)).trans h.box, u, v, z, (hb.block _ (lt_of_block hu)).trans hu⟩
theorem KC.set {n m w W} (h : KC n m w W) (x y s : Value) : KC n m w (((W.setCell ⟨n + 1, 0, none⟩ x).setCell ⟨n + 1, 1, none⟩ y).setCell ⟨n + 1, 2, none⟩ s) := by
  obtain ⟨u, v, z, hu⟩ := h.res
  exact ⟨((h.below.setCell (p := ⟨n + 1, 0, none⟩) (Nat.le_succ _) _).setCell (p := ⟨n + 1, 1, none⟩) (Nat.le_succ _) _).setCell (p := ⟨n + 1, 2, none⟩) (Nat.le_succ _) _,
    two_other (two_other (two_other h.box (by omega)) (by omega)) (by omega), x, y, s, three_set hu⟩
theorem KC.facts {n m w W} (h : KC n m w W) : Hid (KC n m w W) ∧ W.cell? ⟨n, 0, none⟩ = some (.slice m.ka m.key.length m.kc) ∧ W.cell? ⟨n, 1, none⟩ = some (.slice m.va m.val.length m.vc) ∧ W.cell? ⟨n, 2, none⟩ = some (.int .i64 m.ver) ∧
    W.cell? ⟨n + 1, 0, none⟩ = some (valAt W ⟨n + 1, 0, none⟩) ∧ W.cell? ⟨n + 1, 1, none⟩ = some (valAt W ⟨n + 1, 1, none⟩) ∧ W.cell? ⟨n + 1, 2, none⟩ = some (valAt W ⟨n + 1, 2, none⟩) ∧
    W.frozen? ⟨n + 1, 0, none⟩ = false ∧ W.frozen? ⟨n + 1, 1, none⟩ = false ∧ W.frozen? ⟨n + 1, 2, none⟩ = false := by
  obtain ⟨u, v, z, hu⟩ := h.res
  obtain ⟨a1, a2, a3, -, -, -⟩ := three_cells h.box
  obtain ⟨c1, c2, c3, c4, c5, c6⟩ := three_cells hu
  exact ⟨h, a1, a2, a3, valAt_some c1, valAt_some c2, valAt_some c3, c4, c5, c6⟩

theorem own_set {W : World} {base : Nat} {e : TypeId} {size : Nat} {x : Value} {n : Nat} {xs : List Value} (h : W.ownsRow base e size x n xs) {a : Addr} (hne : ∀ k, x.ownBlock = some k → k ≠ a.block) (v : Value) : (W.setCell a v).ownsRow base e size x n xs :=
  h.kept (grown_set W a v) (by cases hx : x.ownBlock with | none => exact .inl rfl | some k => exact .inr (fun e => hne k hx (by cases e; rfl)))
theorem own_set3 {W : World} {base : Nat} {e : TypeId} {size : Nat} {x : Value} {n : Nat} {xs : List Value} (h : W.ownsRow base e size x n xs) {b o1 o2 o3 : Nat} (hne : ∀ k, x.ownBlock = some k → k ≠ b) {u v s : Value} : (((W.setCell ⟨b, o1, none⟩ u).setCell ⟨b, o2, none⟩ v).setCell ⟨b, o3, none⟩ s).ownsRow base e size x n xs :=
  own_set (own_set (own_set h (a := ⟨b, o1, none⟩) hne u) (a := ⟨b, o2, none⟩) hne v) (a := ⟨b, o3, none⟩) hne s

set_option maxHeartbeats 4000000 in
set_option maxRecDepth 100000 in
theorem copied_any (m : Lp) (w : World) (hm : RdP w m) (h1 : m.key.length ≤ 140737488355328) (h2 : m.val.length ≤ 140737488355328) :
    Calls Try.prog 37 #[pv m] w (CopyA m w) := by
  have HM := hid hm
  have o1 := one_rd hm.1
  have o2 := one_rd hm.2
  clear hm
  have HK0 : Hid (KC w.heap.size m w ((w.alloc (.cells #[.slice m.ka m.key.length m.kc, .slice m.va m.val.length m.vc, .int .i64 m.ver] 31)).alloc (.cells #[.slice none 0 0, .slice none 0 0, .int .i64 0] 31))) :=
    ⟨((Below.refl w.heap.size w).alloc (Nat.le_refl _) _).alloc (by simp) _, (Below.heap_alloc _ _ _ (by simp)).trans (heap_alloc_new _ _), _, _, _, heap_alloc2_new _ _ _⟩
  unfold pv
  go_enter Try.func37, Try.ntmps37
  go_wp2_with fail
  generalize (w.alloc (.cells #[.slice m.ka m.key.length m.kc, .slice m.va m.val.length m.vc, .int .i64 m.ver] 31)).alloc (.cells #[.slice none 0 0, .slice none 0 0, .int .i64 0] 31) = w2 at *
  have CK : Hid (∀ W, KC w.heap.size m w W → Calls Try.prog 49 #[.slice m.ka m.key.length m.kc] W (Gives 5 W m.key)) := fun W h => clone_any W _ _ (HM.out.1.old h.below) h1
  have CV : Hid (∀ W, KC w.heap.size m w W → Calls Try.prog 49 #[.slice m.va m.val.length m.vc] W (Gives 5 W m.val)) := fun W h => clone_any W _ _ (HM.out.2.old h.below) h2
  obtain ⟨-, c0, c1, c2, s0, s1, s2, f0, f1, f2⟩ := HK0.out.facts
  go_region_held3 (fun W => Hid (KC w.heap.size m w W) ∧ W.cell? ⟨w.heap.size, 0, none⟩ = some (.slice m.ka m.key.length m.kc) ∧ W.cell? ⟨w.heap.size, 1, none⟩ = some (.slice m.va m.val.length m.vc) ∧ W.cell? ⟨w.heap.size, 2, none⟩ = some (.int .i64 m.ver) ∧
    W.cell? ⟨w.heap.size + 1, 0, none⟩ = some (valAt W ⟨w.heap.size + 1, 0, none⟩) ∧ W.cell? ⟨w.heap.size + 1, 1, none⟩ = some (valAt W ⟨w.heap.size + 1, 1, none⟩) ∧ W.cell? ⟨w.heap.size + 1, 2, none⟩ = some (valAt W ⟨w.heap.size + 1, 2, none⟩) ∧
    W.frozen? ⟨w.heap.size + 1, 0, none⟩ = false ∧ W.frozen? ⟨w.heap.size + 1, 1, none⟩ = false ∧ W.frozen? ⟨w.heap.size + 1, 2, none⟩ = false)
    (first | (go_split_ands; first | exact KC.facts (KC.drew HK0.out) | exact KC.facts (KC.call (by assumption : Hid (KC _ _ _ _)).out (by assumption)) | exact KC.facts (KC.set (by assumption : Hid (KC _ _ _ _)).out _ _ _)) | go_keep)
    (first
      | (go_at_call 49; go_split_ands; with_reducible refine (CK.out _ (by assumption : Hid (KC _ _ _ _)).out).mono ?_; intro e wk hgk; obtain ⟨ak, ck, rfl, ok, bk⟩ := hgk.elim; clear hgk; have OK1 := hid ok; clear ok)
      | (go_at_call 49; go_split_ands; with_reducible refine (CV.out _ (by assumption : Hid (KC _ _ _ _)).out).mono ?_; intro e wv hgv; obtain ⟨av, cv, rfl, ov, bv'⟩ := hgv.elim; clear hgv; have OV1 := hid ov; clear ov))
  all_goals (go_wp2_with fail)
  have hk1 := KC.call (KC.drew HK0.out) bk
  have hk2 := KC.call hk1 bv'
  obtain ⟨u, v, z, hu⟩ := hk2.res
  have hb2 := lt_of_block hk1.box
  have hn : w.heap.size + 1 < w2.heap.size := by obtain ⟨_, _, _, h9⟩ := HK0.out.res; exact lt_of_block h9
  have hkb : ∀ k, (Value.slice ak m.key.length ck).ownBlock = some k → w2.heap.size ≤ k ∧ k < wk.heap.size := fun k hk => OK1.out.lt k hk
  have hvb : ∀ k, (Value.slice av m.val.length cv).ownBlock = some k → wk.heap.size ≤ k ∧ k < wv.heap.size := fun k hk => OV1.out.lt k hk
  refine bodyPost_ret (results_cell_row rfl _ _ (w.heap.size + 1) 31 _ (0, 0) _ rfl (three_set hu) Try.underlying31 rfl (by kernel_rfl)) rfl ?_
  refine ⟨⟨ak, ck, av, cv, m.key, m.val, m.ver⟩, ⟨rfl, rfl, rfl⟩, rfl, ⟨?_, ?_, ?_⟩, (hk2.set _ _ _).below⟩
  · exact own_set3 (own_old (ownsRow_base OK1.out (by show w.heap.size ≤ w2.heap.size; omega)) bv') (fun k hk => by have := hkb k hk; omega)
  · exact own_set3 (ownsRow_base OV1.out (by have := bk.size; show w.heap.size ≤ wk.heap.size; have h5 : w2.drew.heap.size = w2.heap.size := rfl; omega)) (fun k hk => by have := hvb k hk; have := bk.size; have h5 : w2.drew.heap.size = w2.heap.size := rfl; omega)
  · intro a b ha hb
    simp only at ha hb
    subst ha hb
    have := hkb a.block rfl
    have := hvb b.block rfl
    omega
end Go.Proofs.Ytcgnghkjkdkmmaa
