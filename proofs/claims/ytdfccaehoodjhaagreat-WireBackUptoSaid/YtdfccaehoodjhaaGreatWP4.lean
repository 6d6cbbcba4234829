import Derived.Deep.CutRange
import Derived.WalkKit
import Derived.OpenShut
import Derived.Test.YtdfccaehoodjhaaGreatRows
import Derived.WalkSpells
import Derived.WalkLawsBesides
import Derived.Laws.AppendOwnNone
import Derived.ProofKit
import Derived.ShutString
import Derived.ChangeOld
import Derived.Below
import Derived.SizedLaws
import Derived.Deep.Slices
import Derived.Deep.AppendLies
import Derived.Deep.Strs
import Derived.Deep.RegionHeld3
import Derived.Lib.ConvBytes
import Derived.Laws.AppendOwn
import Derived.Deep.MidRow
import Derived.Great.Walk
import Derived.Test.YtdfccaehoodjhaaGreatWP1
import Derived.Test.YtdfccaehoodjhaaGreatWP2
import Derived.Test.YtdfccaehoodjhaaGreatWP3
set_option linter.unusedVariables false
set_option linter.unusedSimpArgs false
set_option linter.unusedVariables false
set_option linter.unusedSimpArgs false
set_option maxRecDepth 100000
namespace Go.Proofs.YtdfccaehoodjhaaGreat
open Go.RowKit Go.Deep

/-- The bytes of the first k things of a list. -/
def takeB (M : List (List Value × List UInt8)) (k : Nat) : List UInt8 := ((M.take k).map (·.2)).flatten

/-- A list in memory. -/
def Lst (W0 : World) (s : Sh) (ao : Option Addr) (n c : Nat) (M : List (List Value × List UInt8)) : Prop :=
  Rws s.wid W0 (.slice ao n c) (M.map (·.1)) ∧ (∀ m ∈ M, Enc W0 s m.1 m.2) ∧ M.length = n ∧ n ≤ 1048576

theorem list_open {W0 : World} {s : Sh} {v : Value} {b : List UInt8} (h : Enc W0 (.list s) [v] b) : ∃ (ao : Option Addr) (n c : Nat) (M : List (List Value × List UInt8)), v = .slice ao n c ∧ Lst W0 s ao n c M ∧ b = numL n ++ takeB M n := by
  obtain ⟨ao, c, M, hv, h1, h2, h3, rfl⟩ := h
  cases hv
  exact ⟨ao, M.length, c, M, rfl, ⟨h1, h2, rfl, h3⟩, by unfold takeB; rw [List.take_length]⟩

theorem Lst.get {W0 : World} {s : Sh} {ao : Option Addr} {n c k : Nat} {M : List (List Value × List UInt8)} (h : Lst W0 s ao n c M) (hs : 0 < s.wid) (hk : k < n) :
    ∃ (m : List Value × List UInt8) (b off : Nat), Enc W0 s m.1 m.2 ∧ ao = some ⟨b, off, none⟩ ∧ (∀ W, Below W0.heap.size W0 W → ∀ (j : Nat) u, m.1[j]? = some u → W.cell? ⟨b, off + k * s.wid + j, none⟩ = some u) ∧ takeB M (k + 1) = takeB M k ++ m.2 ∧ (takeB M k).length + m.2.length ≤ (takeB M n).length := by
  obtain ⟨h1, h2, h3, h4⟩ := h
  have hkl : k < M.length := by omega
  have hm : M[k]? = some M[k] := List.getElem?_eq_getElem hkl
  obtain ⟨b, off, hao, hc⟩ := h1.get hs (k := k) (r := M[k].1) (by rw [List.getElem?_map, hm]; rfl)
  have ht : takeB M (k + 1) = takeB M k ++ M[k].2 := by
    unfold takeB
    rw [List.take_add_one, hm]
    show ((M.take k ++ [M[k]]).map (·.2)).flatten = _
    rw [List.map_append, List.flatten_append]
    simp
  refine ⟨M[k], b, off, h2 _ (List.getElem_mem hkl), hao, fun W hb j u hu => (hb.cell (p := ⟨b, off + k * s.wid + j, none⟩) (World.block_lt_of_cell? _ _ (hc j u hu))).trans (hc j u hu), ht, ?_⟩
  have e : takeB M n = takeB M (k + 1) ++ ((M.drop (k + 1)).map (·.2)).flatten := by
    unfold takeB
    rw [← h3, List.take_length, ← List.flatten_append, ← List.map_append, List.take_append_drop]
  rw [e, ht]
  simp only [List.length_append]
  omega

theorem Lst.cap {W0 : World} {s : Sh} {ao : Option Addr} {n c : Nat} {M : List (List Value × List UInt8)} (h : Lst W0 s ao n c M) : n ≤ c ∧ n ≤ 1048576 ∧ n < 18446744073709551616 ∧ IntKind.u64.wrap (n : Int) = (n : Int) := by
  obtain ⟨h1, h2, h3, h4⟩ := h
  obtain ⟨_, _, e, q1, _⟩ := h1.form
  simp only [Value.slice.injEq, List.length_map] at e q1
  refine ⟨by omega, by omega, by omega, ?_⟩
  rw [wrap_u64]; omega

theorem one_of {W : World} {s : Sh} {cs : List Value} {b : List UInt8} (h : Enc W s cs b) (hs : s.wid = 1) : ∃ v, cs = [v] := by
  have := h.wide.1
  rw [hs] at this
  exact List.length_eq_one_iff.1 this

/-- A cell of a block that stays. -/
theorem box_cell {T : TypeId} {W0 w : World} {B : Nat} {cs : List Value} {t : TypeId} {KK : List (Nat × Obj)} {a : Nat} {l : List UInt8} (h : St T W0 ((B, .cells cs.toArray t (0, 0)) :: KK) a w l) (j : Nat) (u : Value) (hj : cs[j]? = some u) : w.cell? ⟨B, j, none⟩ = some u := by
  have := h.at
  simp [World.cell?, this, hj]

theorem takeB_zero (M : List (List Value × List UInt8)) : takeB M 0 = [] := rfl

theorem form_num {W : World} {v : Value} {b : List UInt8} (h : Enc W .num [v] b) : ∃ n : Nat, v = .int .u64 (n : Int) := by
  obtain ⟨n, _, hv, _⟩ := h; cases hv; exact ⟨n, rfl⟩
theorem form_int {W : World} {v : Value} {b : List UInt8} (h : Enc W .int [v] b) : ∃ z : Int, v = .int .i64 z := by
  obtain ⟨z, _, hv, _⟩ := h; cases hv; exact ⟨z, rfl⟩
theorem form_bool {W : World} {v : Value} {b : List UInt8} (h : Enc W .bool [v] b) : ∃ q : Bool, v = .bool q := by
  obtain ⟨q, hv, _⟩ := h; cases hv; exact ⟨q, rfl⟩
theorem form_name {W : World} {v : Value} {b : List UInt8} (h : Enc W .name [v] b) : ∃ s : ByteArray, v = .string s := by
  obtain ⟨l, hv, _⟩ := h; cases hv; exact ⟨_, rfl⟩
theorem form_data {W : World} {v : Value} {b : List UInt8} (h : Enc W .data [v] b) : ∃ (a : Option Addr) (n c : Nat), v = .slice a n c := by
  obtain ⟨x, l, hv, _, hr, _⟩ := h
  cases hv
  obtain ⟨ao, c, rfl, _⟩ := hr
  exact ⟨ao, _, c, rfl⟩
theorem form_list {W : World} {s : Sh} {v : Value} {b : List UInt8} (h : Enc W (.list s) [v] b) : ∃ (a : Option Addr) (n c : Nat), v = .slice a n c := by
  obtain ⟨a, c, M, hv, _⟩ := h; cases hv; exact ⟨a, _, c, rfl⟩

theorem len_now {cur b r : List UInt8} {N : Nat} (h : cur.length + (b ++ r).length ≤ N) : cur.length + b.length ≤ N := by
  rw [List.length_append] at h; omega
theorem len_step {cur b r : List UInt8} {N : Nat} (h : cur.length + (b ++ r).length ≤ N) : (cur ++ b).length + r.length ≤ N := by
  rw [List.length_append] at h ⊢; omega

/-- A new writer, behind the box of what it shall write. -/
theorem St.begin (W0 : World) (cs : Array Value) (t T : TypeId) : St T W0 [(W0.heap.size, .cells cs t (0, 0))] (W0.heap.size + 1) ((W0.alloc (.cells cs t)).alloc (.cells #[.slice none 0 0] T)) [] := by
  have h1 := heap_alloc2_new W0 (.cells cs t) (.cells #[.slice none 0 0] T)
  have hb : Below W0.heap.size W0 ((W0.alloc (.cells cs t)).alloc (.cells #[.slice none 0 0] T)) := ((Below.refl _ _).alloc (Nat.le_refl _) _).alloc (by simp) _
  have h0 := (Below.heap_alloc (W0.alloc (.cells cs t)) (.cells #[.slice none 0 0] T) W0.heap.size (by simp)).trans (heap_alloc_new W0 (.cells cs t))
  refine ⟨none, 0, h1, World.ownsRow_nil _ _ _ _, by omega, by simp [Value.ownBlock], hb, fun p hp => ?_⟩
  rcases List.mem_cons.1 hp with rfl | hp
  · exact ⟨h0, by show W0.heap.size ≠ _; omega, by simp [Value.ownBlock]⟩
  · cases hp
theorem St.ends {T : TypeId} {W0 w : World} {K : List (Nat × Obj)} {a : Nat} {l : List UInt8} (h : St T W0 K a w l) : ∃ cx : Value, w.heap[a]? = some (.cells #[cx] T (0, 0)) ∧ Gives 5 W0 l (.returned cx) w := by
  obtain ⟨ao, c, h1, h2, h3, h4, h5, h6⟩ := h
  exact ⟨_, h1, _, rfl, h2, h5⟩
def sValue : Sh := .cons .int (.cons .int (.cons .name .nil))
def sColumn : Sh := .cons .name (.cons .int (.cons .bool .nil))
def sTable : Sh := .cons .int (.cons .name (.cons (.list sColumn) (.cons (.list .int) .nil)))
def sIndex : Sh := .cons .int (.cons .int (.cons .name (.cons (.list .int) (.cons .bool (.cons .int (.cons .bool .nil))))))
def sCatalog : Sh := .cons .int (.cons .int (.cons (.list sTable) (.cons (.list sIndex) .nil)))
def sPair : Sh := .cons .data (.cons .data (.cons .int .nil))
def sWrite : Sh := .cons .data (.cons .data (.cons .bool .nil))
def sSpan : Sh := .cons .data (.cons .data .nil)
def sSeen : Sh := .cons sSpan (.cons (.list sPair) .nil)
def sCommand : Sh := .cons .int (.cons .int (.cons .num (.cons .int (.cons .int (.cons .int (.cons .bool (.cons .data (.cons sSpan (.cons (.list sPair) (.cons (.list sSeen) (.cons (.list sWrite) (.cons sTable (.cons sIndex (.cons .name .nil))))))))))))))
def sOwner : Sh := .cons .int (.cons .data .nil)
def sRoutes : Sh := .cons .int (.cons .int (.cons (.list sOwner) (.cons .int (.cons .data .nil))))
def sReply : Sh := .cons .int (.cons .num (.cons .int (.cons .bool (.cons (.list sPair) (.cons (.list .num) (.cons sCatalog (.cons sRoutes .nil)))))))
def sSet : Sh := .cons .int (.cons sValue .nil)
def sOp : Sh := .cons .int (.cons .name (.cons .name (.cons (.list sValue) (.cons (.list sValue) (.cons (.list sSet) (.cons (.list sValue) (.cons (.list sValue) (.cons .int (.cons .bool (.cons (.list .data) .nil))))))))))
def sAsk : Sh := .cons .int (.cons (.list sOp) (.cons sTable (.cons sIndex (.cons .name (.cons .int (.cons .data .nil))))))
def sCall : Sh := .cons .num (.cons .num (.cons .data .nil))

theorem Value_cells {W0 : World} {cs : List Value} {bs : List UInt8} (h : Enc W0 sValue cs bs) : ∃ (v0 v1 v2 : Value) (b0 b1 b2 : List UInt8), cs = [v0, v1, v2] ∧ bs = b0 ++ (b1 ++ b2) ∧ Enc W0 .int [v0] b0 ∧ Enc W0 .int [v1] b1 ∧ Enc W0 .name [v2] b2 := by
  unfold sValue at h
  obtain ⟨c0, r0, p0, q0, rfl, rfl, f0, h⟩ := h
  obtain ⟨v0, rfl⟩ := one_of f0 rfl
  have e0 := f0
  obtain ⟨c1, r1, p1, q1, rfl, rfl, f1, h⟩ := h
  obtain ⟨v1, rfl⟩ := one_of f1 rfl
  have e1 := f1
  obtain ⟨c2, r2, p2, q2, rfl, rfl, f2, h⟩ := h
  obtain ⟨v2, rfl⟩ := one_of f2 rfl
  have e2 := f2
  obtain ⟨rfl, rfl⟩ := h
  exact ⟨v0, v1, v2, p0, p1, p2, rfl, by simp [List.append_assoc], e0, e1, e2⟩
theorem Column_cells {W0 : World} {cs : List Value} {bs : List UInt8} (h : Enc W0 sColumn cs bs) : ∃ (v0 v1 v2 : Value) (b0 b1 b2 : List UInt8), cs = [v0, v1, v2] ∧ bs = b0 ++ (b1 ++ b2) ∧ Enc W0 .name [v0] b0 ∧ Enc W0 .int [v1] b1 ∧ Enc W0 .bool [v2] b2 := by
  unfold sColumn at h
  obtain ⟨c0, r0, p0, q0, rfl, rfl, f0, h⟩ := h
  obtain ⟨v0, rfl⟩ := one_of f0 rfl
  have e0 := f0
  obtain ⟨c1, r1, p1, q1, rfl, rfl, f1, h⟩ := h
  obtain ⟨v1, rfl⟩ := one_of f1 rfl
  have e1 := f1
  obtain ⟨c2, r2, p2, q2, rfl, rfl, f2, h⟩ := h
  obtain ⟨v2, rfl⟩ := one_of f2 rfl
  have e2 := f2
  obtain ⟨rfl, rfl⟩ := h
  exact ⟨v0, v1, v2, p0, p1, p2, rfl, by simp [List.append_assoc], e0, e1, e2⟩
theorem Table_cells {W0 : World} {cs : List Value} {bs : List UInt8} (h : Enc W0 sTable cs bs) : ∃ (v0 v1 v2 v3 : Value) (b0 b1 b2 b3 : List UInt8), cs = [v0, v1, v2, v3] ∧ bs = b0 ++ (b1 ++ (b2 ++ b3)) ∧ Enc W0 .int [v0] b0 ∧ Enc W0 .name [v1] b1 ∧ Enc W0 (.list sColumn) [v2] b2 ∧ Enc W0 (.list .int) [v3] b3 := by
  unfold sTable at h
  obtain ⟨c0, r0, p0, q0, rfl, rfl, f0, h⟩ := h
  obtain ⟨v0, rfl⟩ := one_of f0 rfl
  have e0 := f0
  obtain ⟨c1, r1, p1, q1, rfl, rfl, f1, h⟩ := h
  obtain ⟨v1, rfl⟩ := one_of f1 rfl
  have e1 := f1
  obtain ⟨c2, r2, p2, q2, rfl, rfl, f2, h⟩ := h
  obtain ⟨v2, rfl⟩ := one_of f2 rfl
  have e2 := f2
  obtain ⟨c3, r3, p3, q3, rfl, rfl, f3, h⟩ := h
  obtain ⟨v3, rfl⟩ := one_of f3 rfl
  have e3 := f3
  obtain ⟨rfl, rfl⟩ := h
  exact ⟨v0, v1, v2, v3, p0, p1, p2, p3, rfl, by simp [List.append_assoc], e0, e1, e2, e3⟩
theorem Index_cells {W0 : World} {cs : List Value} {bs : List UInt8} (h : Enc W0 sIndex cs bs) : ∃ (v0 v1 v2 v3 v4 v5 v6 : Value) (b0 b1 b2 b3 b4 b5 b6 : List UInt8), cs = [v0, v1, v2, v3, v4, v5, v6] ∧ bs = b0 ++ (b1 ++ (b2 ++ (b3 ++ (b4 ++ (b5 ++ b6))))) ∧ Enc W0 .int [v0] b0 ∧ Enc W0 .int [v1] b1 ∧ Enc W0 .name [v2] b2 ∧ Enc W0 (.list .int) [v3] b3 ∧ Enc W0 .bool [v4] b4 ∧ Enc W0 .int [v5] b5 ∧ Enc W0 .bool [v6] b6 := by
  unfold sIndex at h
  obtain ⟨c0, r0, p0, q0, rfl, rfl, f0, h⟩ := h
  obtain ⟨v0, rfl⟩ := one_of f0 rfl
  have e0 := f0
  obtain ⟨c1, r1, p1, q1, rfl, rfl, f1, h⟩ := h
  obtain ⟨v1, rfl⟩ := one_of f1 rfl
  have e1 := f1
  obtain ⟨c2, r2, p2, q2, rfl, rfl, f2, h⟩ := h
  obtain ⟨v2, rfl⟩ := one_of f2 rfl
  have e2 := f2
  obtain ⟨c3, r3, p3, q3, rfl, rfl, f3, h⟩ := h
  obtain ⟨v3, rfl⟩ := one_of f3 rfl
  have e3 := f3
  obtain ⟨c4, r4, p4, q4, rfl, rfl, f4, h⟩ := h
  obtain ⟨v4, rfl⟩ := one_of f4 rfl
  have e4 := f4
  obtain ⟨c5, r5, p5, q5, rfl, rfl, f5, h⟩ := h
  obtain ⟨v5, rfl⟩ := one_of f5 rfl
  have e5 := f5
  obtain ⟨c6, r6, p6, q6, rfl, rfl, f6, h⟩ := h
  obtain ⟨v6, rfl⟩ := one_of f6 rfl
  have e6 := f6
  obtain ⟨rfl, rfl⟩ := h
  exact ⟨v0, v1, v2, v3, v4, v5, v6, p0, p1, p2, p3, p4, p5, p6, rfl, by simp [List.append_assoc], e0, e1, e2, e3, e4, e5, e6⟩
theorem Catalog_cells {W0 : World} {cs : List Value} {bs : List UInt8} (h : Enc W0 sCatalog cs bs) : ∃ (v0 v1 v2 v3 : Value) (b0 b1 b2 b3 : List UInt8), cs = [v0, v1, v2, v3] ∧ bs = b0 ++ (b1 ++ (b2 ++ b3)) ∧ Enc W0 .int [v0] b0 ∧ Enc W0 .int [v1] b1 ∧ Enc W0 (.list sTable) [v2] b2 ∧ Enc W0 (.list sIndex) [v3] b3 := by
  unfold sCatalog at h
  obtain ⟨c0, r0, p0, q0, rfl, rfl, f0, h⟩ := h
  obtain ⟨v0, rfl⟩ := one_of f0 rfl
  have e0 := f0
  obtain ⟨c1, r1, p1, q1, rfl, rfl, f1, h⟩ := h
  obtain ⟨v1, rfl⟩ := one_of f1 rfl
  have e1 := f1
  obtain ⟨c2, r2, p2, q2, rfl, rfl, f2, h⟩ := h
  obtain ⟨v2, rfl⟩ := one_of f2 rfl
  have e2 := f2
  obtain ⟨c3, r3, p3, q3, rfl, rfl, f3, h⟩ := h
  obtain ⟨v3, rfl⟩ := one_of f3 rfl
  have e3 := f3
  obtain ⟨rfl, rfl⟩ := h
  exact ⟨v0, v1, v2, v3, p0, p1, p2, p3, rfl, by simp [List.append_assoc], e0, e1, e2, e3⟩
theorem Pair_cells {W0 : World} {cs : List Value} {bs : List UInt8} (h : Enc W0 sPair cs bs) : ∃ (v0 v1 v2 : Value) (b0 b1 b2 : List UInt8), cs = [v0, v1, v2] ∧ bs = b0 ++ (b1 ++ b2) ∧ Enc W0 .data [v0] b0 ∧ Enc W0 .data [v1] b1 ∧ Enc W0 .int [v2] b2 := by
  unfold sPair at h
  obtain ⟨c0, r0, p0, q0, rfl, rfl, f0, h⟩ := h
  obtain ⟨v0, rfl⟩ := one_of f0 rfl
  have e0 := f0
  obtain ⟨c1, r1, p1, q1, rfl, rfl, f1, h⟩ := h
  obtain ⟨v1, rfl⟩ := one_of f1 rfl
  have e1 := f1
  obtain ⟨c2, r2, p2, q2, rfl, rfl, f2, h⟩ := h
  obtain ⟨v2, rfl⟩ := one_of f2 rfl
  have e2 := f2
  obtain ⟨rfl, rfl⟩ := h
  exact ⟨v0, v1, v2, p0, p1, p2, rfl, by simp [List.append_assoc], e0, e1, e2⟩
theorem Write_cells {W0 : World} {cs : List Value} {bs : List UInt8} (h : Enc W0 sWrite cs bs) : ∃ (v0 v1 v2 : Value) (b0 b1 b2 : List UInt8), cs = [v0, v1, v2] ∧ bs = b0 ++ (b1 ++ b2) ∧ Enc W0 .data [v0] b0 ∧ Enc W0 .data [v1] b1 ∧ Enc W0 .bool [v2] b2 := by
  unfold sWrite at h
  obtain ⟨c0, r0, p0, q0, rfl, rfl, f0, h⟩ := h
  obtain ⟨v0, rfl⟩ := one_of f0 rfl
  have e0 := f0
  obtain ⟨c1, r1, p1, q1, rfl, rfl, f1, h⟩ := h
  obtain ⟨v1, rfl⟩ := one_of f1 rfl
  have e1 := f1
  obtain ⟨c2, r2, p2, q2, rfl, rfl, f2, h⟩ := h
  obtain ⟨v2, rfl⟩ := one_of f2 rfl
  have e2 := f2
  obtain ⟨rfl, rfl⟩ := h
  exact ⟨v0, v1, v2, p0, p1, p2, rfl, by simp [List.append_assoc], e0, e1, e2⟩
theorem Span_cells {W0 : World} {cs : List Value} {bs : List UInt8} (h : Enc W0 sSpan cs bs) : ∃ (v0 v1 : Value) (b0 b1 : List UInt8), cs = [v0, v1] ∧ bs = b0 ++ b1 ∧ Enc W0 .data [v0] b0 ∧ Enc W0 .data [v1] b1 := by
  unfold sSpan at h
  obtain ⟨c0, r0, p0, q0, rfl, rfl, f0, h⟩ := h
  obtain ⟨v0, rfl⟩ := one_of f0 rfl
  have e0 := f0
  obtain ⟨c1, r1, p1, q1, rfl, rfl, f1, h⟩ := h
  obtain ⟨v1, rfl⟩ := one_of f1 rfl
  have e1 := f1
  obtain ⟨rfl, rfl⟩ := h
  exact ⟨v0, v1, p0, p1, rfl, by simp [List.append_assoc], e0, e1⟩
theorem Seen_cells {W0 : World} {cs : List Value} {bs : List UInt8} (h : Enc W0 sSeen cs bs) : ∃ (v0 v1 v2 : Value) (b0 b1 b2 : List UInt8), cs = [v0, v1, v2] ∧ bs = b0 ++ (b1 ++ b2) ∧ Enc W0 .data [v0] b0 ∧ Enc W0 .data [v1] b1 ∧ Enc W0 (.list sPair) [v2] b2 := by
  unfold sSeen at h
  obtain ⟨c0, r0, p0, q0, rfl, rfl, f0, h⟩ := h
  obtain ⟨v0, v1, b0, b1, rfl, rfl, e0, e1⟩ := Span_cells f0
  obtain ⟨c1, r1, p1, q1, rfl, rfl, f1, h⟩ := h
  obtain ⟨v2, rfl⟩ := one_of f1 rfl
  have e2 := f1
  obtain ⟨rfl, rfl⟩ := h
  exact ⟨v0, v1, v2, b0, b1, p1, rfl, by simp [List.append_assoc], e0, e1, e2⟩
theorem Command_cells {W0 : World} {cs : List Value} {bs : List UInt8} (h : Enc W0 sCommand cs bs) : ∃ (v0 v1 v2 v3 v4 v5 v6 v7 v8 v9 v10 v11 v12 v13 v14 v15 v16 v17 v18 v19 v20 v21 v22 v23 v24 : Value) (b0 b1 b2 b3 b4 b5 b6 b7 b8 b9 b10 b11 b12 b13 b14 b15 b16 b17 b18 b19 b20 b21 b22 b23 b24 : List UInt8), cs = [v0, v1, v2, v3, v4, v5, v6, v7, v8, v9, v10, v11, v12, v13, v14, v15, v16, v17, v18, v19, v20, v21, v22, v23, v24] ∧ bs = b0 ++ (b1 ++ (b2 ++ (b3 ++ (b4 ++ (b5 ++ (b6 ++ (b7 ++ (b8 ++ (b9 ++ (b10 ++ (b11 ++ (b12 ++ (b13 ++ (b14 ++ (b15 ++ (b16 ++ (b17 ++ (b18 ++ (b19 ++ (b20 ++ (b21 ++ (b22 ++ (b23 ++ b24))))))))))))))))))))))) ∧ Enc W0 .int [v0] b0 ∧ Enc W0 .int [v1] b1 ∧ Enc W0 .num [v2] b2 ∧ Enc W0 .int [v3] b3 ∧ Enc W0 .int [v4] b4 ∧ Enc W0 .int [v5] b5 ∧ Enc W0 .bool [v6] b6 ∧ Enc W0 .data [v7] b7 ∧ Enc W0 .data [v8] b8 ∧ Enc W0 .data [v9] b9 ∧ Enc W0 (.list sPair) [v10] b10 ∧ Enc W0 (.list sSeen) [v11] b11 ∧ Enc W0 (.list sWrite) [v12] b12 ∧ Enc W0 .int [v13] b13 ∧ Enc W0 .name [v14] b14 ∧ Enc W0 (.list sColumn) [v15] b15 ∧ Enc W0 (.list .int) [v16] b16 ∧ Enc W0 .int [v17] b17 ∧ Enc W0 .int [v18] b18 ∧ Enc W0 .name [v19] b19 ∧ Enc W0 (.list .int) [v20] b20 ∧ Enc W0 .bool [v21] b21 ∧ Enc W0 .int [v22] b22 ∧ Enc W0 .bool [v23] b23 ∧ Enc W0 .name [v24] b24 := by
  unfold sCommand at h
  obtain ⟨c0, r0, p0, q0, rfl, rfl, f0, h⟩ := h
  obtain ⟨v0, rfl⟩ := one_of f0 rfl
  have e0 := f0
  obtain ⟨c1, r1, p1, q1, rfl, rfl, f1, h⟩ := h
  obtain ⟨v1, rfl⟩ := one_of f1 rfl
  have e1 := f1
  obtain ⟨c2, r2, p2, q2, rfl, rfl, f2, h⟩ := h
  obtain ⟨v2, rfl⟩ := one_of f2 rfl
  have e2 := f2
  obtain ⟨c3, r3, p3, q3, rfl, rfl, f3, h⟩ := h
  obtain ⟨v3, rfl⟩ := one_of f3 rfl
  have e3 := f3
  obtain ⟨c4, r4, p4, q4, rfl, rfl, f4, h⟩ := h
  obtain ⟨v4, rfl⟩ := one_of f4 rfl
  have e4 := f4
  obtain ⟨c5, r5, p5, q5, rfl, rfl, f5, h⟩ := h
  obtain ⟨v5, rfl⟩ := one_of f5 rfl
  have e5 := f5
  obtain ⟨c6, r6, p6, q6, rfl, rfl, f6, h⟩ := h
  obtain ⟨v6, rfl⟩ := one_of f6 rfl
  have e6 := f6
  obtain ⟨c7, r7, p7, q7, rfl, rfl, f7, h⟩ := h
  obtain ⟨v7, rfl⟩ := one_of f7 rfl
  have e7 := f7
  obtain ⟨c8, r8, p8, q8, rfl, rfl, f8, h⟩ := h
  obtain ⟨v8, v9, b8, b9, rfl, rfl, e8, e9⟩ := Span_cells f8
  obtain ⟨c9, r9, p9, q9, rfl, rfl, f9, h⟩ := h
  obtain ⟨v10, rfl⟩ := one_of f9 rfl
  have e10 := f9
  obtain ⟨c10, r10, p10, q10, rfl, rfl, f10, h⟩ := h
  obtain ⟨v11, rfl⟩ := one_of f10 rfl
  have e11 := f10
  obtain ⟨c11, r11, p11, q11, rfl, rfl, f11, h⟩ := h
  obtain ⟨v12, rfl⟩ := one_of f11 rfl
  have e12 := f11
  obtain ⟨c12, r12, p12, q12, rfl, rfl, f12, h⟩ := h
  obtain ⟨v13, v14, v15, v16, b13, b14, b15, b16, rfl, rfl, e13, e14, e15, e16⟩ := Table_cells f12
  obtain ⟨c13, r13, p13, q13, rfl, rfl, f13, h⟩ := h
  obtain ⟨v17, v18, v19, v20, v21, v22, v23, b17, b18, b19, b20, b21, b22, b23, rfl, rfl, e17, e18, e19, e20, e21, e22, e23⟩ := Index_cells f13
  obtain ⟨c14, r14, p14, q14, rfl, rfl, f14, h⟩ := h
  obtain ⟨v24, rfl⟩ := one_of f14 rfl
  have e24 := f14
  obtain ⟨rfl, rfl⟩ := h
  exact ⟨v0, v1, v2, v3, v4, v5, v6, v7, v8, v9, v10, v11, v12, v13, v14, v15, v16, v17, v18, v19, v20, v21, v22, v23, v24, p0, p1, p2, p3, p4, p5, p6, p7, b8, b9, p9, p10, p11, b13, b14, b15, b16, b17, b18, b19, b20, b21, b22, b23, p14, rfl, by simp [List.append_assoc], e0, e1, e2, e3, e4, e5, e6, e7, e8, e9, e10, e11, e12, e13, e14, e15, e16, e17, e18, e19, e20, e21, e22, e23, e24⟩
theorem Owner_cells {W0 : World} {cs : List Value} {bs : List UInt8} (h : Enc W0 sOwner cs bs) : ∃ (v0 v1 : Value) (b0 b1 : List UInt8), cs = [v0, v1] ∧ bs = b0 ++ b1 ∧ Enc W0 .int [v0] b0 ∧ Enc W0 .data [v1] b1 := by
  unfold sOwner at h
  obtain ⟨c0, r0, p0, q0, rfl, rfl, f0, h⟩ := h
  obtain ⟨v0, rfl⟩ := one_of f0 rfl
  have e0 := f0
  obtain ⟨c1, r1, p1, q1, rfl, rfl, f1, h⟩ := h
  obtain ⟨v1, rfl⟩ := one_of f1 rfl
  have e1 := f1
  obtain ⟨rfl, rfl⟩ := h
  exact ⟨v0, v1, p0, p1, rfl, by simp [List.append_assoc], e0, e1⟩
theorem Routes_cells {W0 : World} {cs : List Value} {bs : List UInt8} (h : Enc W0 sRoutes cs bs) : ∃ (v0 v1 v2 v3 v4 : Value) (b0 b1 b2 b3 b4 : List UInt8), cs = [v0, v1, v2, v3, v4] ∧ bs = b0 ++ (b1 ++ (b2 ++ (b3 ++ b4))) ∧ Enc W0 .int [v0] b0 ∧ Enc W0 .int [v1] b1 ∧ Enc W0 (.list sOwner) [v2] b2 ∧ Enc W0 .int [v3] b3 ∧ Enc W0 .data [v4] b4 := by
  unfold sRoutes at h
  obtain ⟨c0, r0, p0, q0, rfl, rfl, f0, h⟩ := h
  obtain ⟨v0, rfl⟩ := one_of f0 rfl
  have e0 := f0
  obtain ⟨c1, r1, p1, q1, rfl, rfl, f1, h⟩ := h
  obtain ⟨v1, rfl⟩ := one_of f1 rfl
  have e1 := f1
  obtain ⟨c2, r2, p2, q2, rfl, rfl, f2, h⟩ := h
  obtain ⟨v2, rfl⟩ := one_of f2 rfl
  have e2 := f2
  obtain ⟨c3, r3, p3, q3, rfl, rfl, f3, h⟩ := h
  obtain ⟨v3, rfl⟩ := one_of f3 rfl
  have e3 := f3
  obtain ⟨c4, r4, p4, q4, rfl, rfl, f4, h⟩ := h
  obtain ⟨v4, rfl⟩ := one_of f4 rfl
  have e4 := f4
  obtain ⟨rfl, rfl⟩ := h
  exact ⟨v0, v1, v2, v3, v4, p0, p1, p2, p3, p4, rfl, by simp [List.append_assoc], e0, e1, e2, e3, e4⟩
theorem Reply_cells {W0 : World} {cs : List Value} {bs : List UInt8} (h : Enc W0 sReply cs bs) : ∃ (v0 v1 v2 v3 v4 v5 v6 v7 v8 v9 v10 v11 v12 v13 v14 : Value) (b0 b1 b2 b3 b4 b5 b6 b7 b8 b9 b10 b11 b12 b13 b14 : List UInt8), cs = [v0, v1, v2, v3, v4, v5, v6, v7, v8, v9, v10, v11, v12, v13, v14] ∧ bs = b0 ++ (b1 ++ (b2 ++ (b3 ++ (b4 ++ (b5 ++ (b6 ++ (b7 ++ (b8 ++ (b9 ++ (b10 ++ (b11 ++ (b12 ++ (b13 ++ b14))))))))))))) ∧ Enc W0 .int [v0] b0 ∧ Enc W0 .num [v1] b1 ∧ Enc W0 .int [v2] b2 ∧ Enc W0 .bool [v3] b3 ∧ Enc W0 (.list sPair) [v4] b4 ∧ Enc W0 (.list .num) [v5] b5 ∧ Enc W0 .int [v6] b6 ∧ Enc W0 .int [v7] b7 ∧ Enc W0 (.list sTable) [v8] b8 ∧ Enc W0 (.list sIndex) [v9] b9 ∧ Enc W0 .int [v10] b10 ∧ Enc W0 .int [v11] b11 ∧ Enc W0 (.list sOwner) [v12] b12 ∧ Enc W0 .int [v13] b13 ∧ Enc W0 .data [v14] b14 := by
  unfold sReply at h
  obtain ⟨c0, r0, p0, q0, rfl, rfl, f0, h⟩ := h
  obtain ⟨v0, rfl⟩ := one_of f0 rfl
  have e0 := f0
  obtain ⟨c1, r1, p1, q1, rfl, rfl, f1, h⟩ := h
  obtain ⟨v1, rfl⟩ := one_of f1 rfl
  have e1 := f1
  obtain ⟨c2, r2, p2, q2, rfl, rfl, f2, h⟩ := h
  obtain ⟨v2, rfl⟩ := one_of f2 rfl
  have e2 := f2
  obtain ⟨c3, r3, p3, q3, rfl, rfl, f3, h⟩ := h
  obtain ⟨v3, rfl⟩ := one_of f3 rfl
  have e3 := f3
  obtain ⟨c4, r4, p4, q4, rfl, rfl, f4, h⟩ := h
  obtain ⟨v4, rfl⟩ := one_of f4 rfl
  have e4 := f4
  obtain ⟨c5, r5, p5, q5, rfl, rfl, f5, h⟩ := h
  obtain ⟨v5, rfl⟩ := one_of f5 rfl
  have e5 := f5
  obtain ⟨c6, r6, p6, q6, rfl, rfl, f6, h⟩ := h
  obtain ⟨v6, v7, v8, v9, b6, b7, b8, b9, rfl, rfl, e6, e7, e8, e9⟩ := Catalog_cells f6
  obtain ⟨c7, r7, p7, q7, rfl, rfl, f7, h⟩ := h
  obtain ⟨v10, v11, v12, v13, v14, b10, b11, b12, b13, b14, rfl, rfl, e10, e11, e12, e13, e14⟩ := Routes_cells f7
  obtain ⟨rfl, rfl⟩ := h
  exact ⟨v0, v1, v2, v3, v4, v5, v6, v7, v8, v9, v10, v11, v12, v13, v14, p0, p1, p2, p3, p4, p5, b6, b7, b8, b9, b10, b11, b12, b13, b14, rfl, by simp [List.append_assoc], e0, e1, e2, e3, e4, e5, e6, e7, e8, e9, e10, e11, e12, e13, e14⟩
theorem Set_cells {W0 : World} {cs : List Value} {bs : List UInt8} (h : Enc W0 sSet cs bs) : ∃ (v0 v1 v2 v3 : Value) (b0 b1 b2 b3 : List UInt8), cs = [v0, v1, v2, v3] ∧ bs = b0 ++ (b1 ++ (b2 ++ b3)) ∧ Enc W0 .int [v0] b0 ∧ Enc W0 .int [v1] b1 ∧ Enc W0 .int [v2] b2 ∧ Enc W0 .name [v3] b3 := by
  unfold sSet at h
  obtain ⟨c0, r0, p0, q0, rfl, rfl, f0, h⟩ := h
  obtain ⟨v0, rfl⟩ := one_of f0 rfl
  have e0 := f0
  obtain ⟨c1, r1, p1, q1, rfl, rfl, f1, h⟩ := h
  obtain ⟨v1, v2, v3, b1, b2, b3, rfl, rfl, e1, e2, e3⟩ := Value_cells f1
  obtain ⟨rfl, rfl⟩ := h
  exact ⟨v0, v1, v2, v3, p0, b1, b2, b3, rfl, by simp [List.append_assoc], e0, e1, e2, e3⟩
theorem Op_cells {W0 : World} {cs : List Value} {bs : List UInt8} (h : Enc W0 sOp cs bs) : ∃ (v0 v1 v2 v3 v4 v5 v6 v7 v8 v9 v10 : Value) (b0 b1 b2 b3 b4 b5 b6 b7 b8 b9 b10 : List UInt8), cs = [v0, v1, v2, v3, v4, v5, v6, v7, v8, v9, v10] ∧ bs = b0 ++ (b1 ++ (b2 ++ (b3 ++ (b4 ++ (b5 ++ (b6 ++ (b7 ++ (b8 ++ (b9 ++ b10))))))))) ∧ Enc W0 .int [v0] b0 ∧ Enc W0 .name [v1] b1 ∧ Enc W0 .name [v2] b2 ∧ Enc W0 (.list sValue) [v3] b3 ∧ Enc W0 (.list sValue) [v4] b4 ∧ Enc W0 (.list sSet) [v5] b5 ∧ Enc W0 (.list sValue) [v6] b6 ∧ Enc W0 (.list sValue) [v7] b7 ∧ Enc W0 .int [v8] b8 ∧ Enc W0 .bool [v9] b9 ∧ Enc W0 (.list .data) [v10] b10 := by
  unfold sOp at h
  obtain ⟨c0, r0, p0, q0, rfl, rfl, f0, h⟩ := h
  obtain ⟨v0, rfl⟩ := one_of f0 rfl
  have e0 := f0
  obtain ⟨c1, r1, p1, q1, rfl, rfl, f1, h⟩ := h
  obtain ⟨v1, rfl⟩ := one_of f1 rfl
  have e1 := f1
  obtain ⟨c2, r2, p2, q2, rfl, rfl, f2, h⟩ := h
  obtain ⟨v2, rfl⟩ := one_of f2 rfl
  have e2 := f2
  obtain ⟨c3, r3, p3, q3, rfl, rfl, f3, h⟩ := h
  obtain ⟨v3, rfl⟩ := one_of f3 rfl
  have e3 := f3
  obtain ⟨c4, r4, p4, q4, rfl, rfl, f4, h⟩ := h
  obtain ⟨v4, rfl⟩ := one_of f4 rfl
  have e4 := f4
  obtain ⟨c5, r5, p5, q5, rfl, rfl, f5, h⟩ := h
  obtain ⟨v5, rfl⟩ := one_of f5 rfl
  have e5 := f5
  obtain ⟨c6, r6, p6, q6, rfl, rfl, f6, h⟩ := h
  obtain ⟨v6, rfl⟩ := one_of f6 rfl
  have e6 := f6
  obtain ⟨c7, r7, p7, q7, rfl, rfl, f7, h⟩ := h
  obtain ⟨v7, rfl⟩ := one_of f7 rfl
  have e7 := f7
  obtain ⟨c8, r8, p8, q8, rfl, rfl, f8, h⟩ := h
  obtain ⟨v8, rfl⟩ := one_of f8 rfl
  have e8 := f8
  obtain ⟨c9, r9, p9, q9, rfl, rfl, f9, h⟩ := h
  obtain ⟨v9, rfl⟩ := one_of f9 rfl
  have e9 := f9
  obtain ⟨c10, r10, p10, q10, rfl, rfl, f10, h⟩ := h
  obtain ⟨v10, rfl⟩ := one_of f10 rfl
  have e10 := f10
  obtain ⟨rfl, rfl⟩ := h
  exact ⟨v0, v1, v2, v3, v4, v5, v6, v7, v8, v9, v10, p0, p1, p2, p3, p4, p5, p6, p7, p8, p9, p10, rfl, by simp [List.append_assoc], e0, e1, e2, e3, e4, e5, e6, e7, e8, e9, e10⟩
theorem Ask_cells {W0 : World} {cs : List Value} {bs : List UInt8} (h : Enc W0 sAsk cs bs) : ∃ (v0 v1 v2 v3 v4 v5 v6 v7 v8 v9 v10 v11 v12 v13 v14 v15 : Value) (b0 b1 b2 b3 b4 b5 b6 b7 b8 b9 b10 b11 b12 b13 b14 b15 : List UInt8), cs = [v0, v1, v2, v3, v4, v5, v6, v7, v8, v9, v10, v11, v12, v13, v14, v15] ∧ bs = b0 ++ (b1 ++ (b2 ++ (b3 ++ (b4 ++ (b5 ++ (b6 ++ (b7 ++ (b8 ++ (b9 ++ (b10 ++ (b11 ++ (b12 ++ (b13 ++ (b14 ++ b15)))))))))))))) ∧ Enc W0 .int [v0] b0 ∧ Enc W0 (.list sOp) [v1] b1 ∧ Enc W0 .int [v2] b2 ∧ Enc W0 .name [v3] b3 ∧ Enc W0 (.list sColumn) [v4] b4 ∧ Enc W0 (.list .int) [v5] b5 ∧ Enc W0 .int [v6] b6 ∧ Enc W0 .int [v7] b7 ∧ Enc W0 .name [v8] b8 ∧ Enc W0 (.list .int) [v9] b9 ∧ Enc W0 .bool [v10] b10 ∧ Enc W0 .int [v11] b11 ∧ Enc W0 .bool [v12] b12 ∧ Enc W0 .name [v13] b13 ∧ Enc W0 .int [v14] b14 ∧ Enc W0 .data [v15] b15 := by
  unfold sAsk at h
  obtain ⟨c0, r0, p0, q0, rfl, rfl, f0, h⟩ := h
  obtain ⟨v0, rfl⟩ := one_of f0 rfl
  have e0 := f0
  obtain ⟨c1, r1, p1, q1, rfl, rfl, f1, h⟩ := h
  obtain ⟨v1, rfl⟩ := one_of f1 rfl
  have e1 := f1
  obtain ⟨c2, r2, p2, q2, rfl, rfl, f2, h⟩ := h
  obtain ⟨v2, v3, v4, v5, b2, b3, b4, b5, rfl, rfl, e2, e3, e4, e5⟩ := Table_cells f2
  obtain ⟨c3, r3, p3, q3, rfl, rfl, f3, h⟩ := h
  obtain ⟨v6, v7, v8, v9, v10, v11, v12, b6, b7, b8, b9, b10, b11, b12, rfl, rfl, e6, e7, e8, e9, e10, e11, e12⟩ := Index_cells f3
  obtain ⟨c4, r4, p4, q4, rfl, rfl, f4, h⟩ := h
  obtain ⟨v13, rfl⟩ := one_of f4 rfl
  have e13 := f4
  obtain ⟨c5, r5, p5, q5, rfl, rfl, f5, h⟩ := h
  obtain ⟨v14, rfl⟩ := one_of f5 rfl
  have e14 := f5
  obtain ⟨c6, r6, p6, q6, rfl, rfl, f6, h⟩ := h
  obtain ⟨v15, rfl⟩ := one_of f6 rfl
  have e15 := f6
  obtain ⟨rfl, rfl⟩ := h
  exact ⟨v0, v1, v2, v3, v4, v5, v6, v7, v8, v9, v10, v11, v12, v13, v14, v15, p0, p1, b2, b3, b4, b5, b6, b7, b8, b9, b10, b11, b12, p4, p5, p6, rfl, by simp [List.append_assoc], e0, e1, e2, e3, e4, e5, e6, e7, e8, e9, e10, e11, e12, e13, e14, e15⟩
theorem Call_cells {W0 : World} {cs : List Value} {bs : List UInt8} (h : Enc W0 sCall cs bs) : ∃ (v0 v1 v2 : Value) (b0 b1 b2 : List UInt8), cs = [v0, v1, v2] ∧ bs = b0 ++ (b1 ++ b2) ∧ Enc W0 .num [v0] b0 ∧ Enc W0 .num [v1] b1 ∧ Enc W0 .data [v2] b2 := by
  unfold sCall at h
  obtain ⟨c0, r0, p0, q0, rfl, rfl, f0, h⟩ := h
  obtain ⟨v0, rfl⟩ := one_of f0 rfl
  have e0 := f0
  obtain ⟨c1, r1, p1, q1, rfl, rfl, f1, h⟩ := h
  obtain ⟨v1, rfl⟩ := one_of f1 rfl
  have e1 := f1
  obtain ⟨c2, r2, p2, q2, rfl, rfl, f2, h⟩ := h
  obtain ⟨v2, rfl⟩ := one_of f2 rfl
  have e2 := f2
  obtain ⟨rfl, rfl⟩ := h
  exact ⟨v0, v1, v2, p0, p1, p2, rfl, by simp [List.append_assoc], e0, e1, e2⟩

end Go.Proofs.YtdfccaehoodjhaaGreat

set_option linter.unusedVariables false
set_option linter.unusedSimpArgs false
set_option maxRecDepth 100000
namespace Go.Proofs.YtdfccaehoodjhaaGreat
open Go.RowKit Go.Deep

theorem exec_load {P : Program} {ρ : Operand → Value} {o : Oper} {t : TypeId} {x : Operand} {v : Value} {W : World} (ho : o.op = .load t x) (h : (Instr.loadAt t (ρ x)).run P W = .ok v W) : (execOp ρ o).run P W = .ok (.value v) W := by
  unfold execOp
  simp only [ho, Sem.run_bind, h, Result.andThen_ok]
  rfl
theorem cells_load {V : World} {B : Nat} {cs : List Value} {t : TypeId} {d : TypeDesc} (hc : ∀ (i : Nat) u, cs[i]? = some u → V.cell? ⟨B, i, none⟩ = some u) (hu : Tryz.prog.underlying t = some d) (hd : d.isRow = true) (hi : (Tryz.prog.info? t).map (·.size) = some cs.length) :
    (Instr.loadAt t (.pointer (some ⟨B, 0, none⟩))).run Tryz.prog V = .ok (.agg cs.toArray) V :=
  run_loadAt_mid V B 0 t cs d (fun j v hv => by rw [Nat.zero_add]; exact hc j v hv) hu hd hi
end Go.Proofs.YtdfccaehoodjhaaGreat

set_option linter.unusedVariables false
set_option linter.unusedSimpArgs false
set_option maxRecDepth 100000
namespace Go.Proofs.YtdfccaehoodjhaaGreat
open Go.RowKit Go.Deep

theorem numb_inj {a b : Nat} {r1 r2 : List UInt8} (ha : a < 2 ^ 64) (hb : b < 2 ^ 64) (h : numL a ++ r1 = numL b ++ r2) : a = b ∧ r1 = r2 := by
  have e1 := rdN_back ha r1
  have e2 := rdN_back hb r2
  rw [h, e2] at e1
  simp only [Prod.mk.injEq] at e1
  obtain ⟨rfl, -⟩ := e1
  exact ⟨rfl, List.append_cancel_left h⟩

theorem text_inj {a b r1 r2 : List UInt8} (ha : a.length < 2 ^ 64) (hb : b.length < 2 ^ 64) (h : textL a ++ r1 = textL b ++ r2) : a = b ∧ r1 = r2 := by
  unfold textL at h
  rw [List.append_assoc, List.append_assoc] at h
  obtain ⟨h1, h2⟩ := numb_inj ha hb h
  exact List.append_inj h2 h1

theorem tw_inj {W W' : World} : ∀ (s : Sh) {c1 c2 : List Value} {b1 b2 r1 r2 : List UInt8}, Enc W s c1 b1 → Enc W' s c2 b2 → b1 ++ r1 = b2 ++ r2 → b1 = b2 ∧ r1 = r2
  | .num, c1, c2, b1, b2, r1, r2, h1, h2, h => by
    obtain ⟨n, hn, _, rfl⟩ := h1
    obtain ⟨m, hm, _, rfl⟩ := h2
    obtain ⟨rfl, p⟩ := numb_inj (by omega) (by omega) h
    exact ⟨rfl, p⟩
  | .int, c1, c2, b1, b2, r1, r2, h1, h2, h => by
    obtain ⟨n, hn, _, rfl⟩ := h1
    obtain ⟨m, hm, _, rfl⟩ := h2
    obtain ⟨e, p⟩ := numb_inj (by have := zig_lt hn; omega) (by have := zig_lt hm; omega) h
    exact ⟨by rw [e], p⟩
  | .bool, c1, c2, b1, b2, r1, r2, h1, h2, h => by
    obtain ⟨n, _, rfl⟩ := h1
    obtain ⟨m, _, rfl⟩ := h2
    obtain ⟨e, p⟩ := numb_inj (by split <;> decide) (by split <;> decide) h
    exact ⟨by rw [e], p⟩
  | .data, c1, c2, b1, b2, r1, r2, h1, h2, h => by
    obtain ⟨_, n, _, _, _, hn, rfl⟩ := h1
    obtain ⟨_, m, _, _, _, hm, rfl⟩ := h2
    obtain ⟨rfl, p⟩ := text_inj (by omega) (by omega) h
    exact ⟨rfl, p⟩
  | .name, c1, c2, b1, b2, r1, r2, h1, h2, h => by
    obtain ⟨n, _, hn, rfl⟩ := h1
    obtain ⟨m, _, hm, rfl⟩ := h2
    obtain ⟨rfl, p⟩ := text_inj (by omega) (by omega) h
    exact ⟨rfl, p⟩
  | .list s, c1, c2, b1, b2, r1, r2, h1, h2, h => by
    obtain ⟨_, _, M1, _, _, g1, l1, rfl⟩ := h1
    obtain ⟨_, _, M2, _, _, g2, l2, rfl⟩ := h2
    rw [List.append_assoc, List.append_assoc] at h
    obtain ⟨hn, h⟩ := numb_inj (by omega) (by omega) h
    rw [hn]
    suffices key : ∀ (L1 L2 : List (List Value × List UInt8)), (∀ m ∈ L1, Enc W s m.1 m.2) → (∀ m ∈ L2, Enc W' s m.1 m.2) → L1.length = L2.length → (L1.map (·.2)).flatten ++ r1 = (L2.map (·.2)).flatten ++ r2 → (L1.map (·.2)).flatten = (L2.map (·.2)).flatten ∧ r1 = r2 by
      obtain ⟨p, q⟩ := key M1 M2 g1 g2 hn h
      exact ⟨by rw [p], q⟩
    clear h hn l1 l2 g1 g2
    intro L1
    induction L1 with
    | nil => intro L2 _ _ h e; cases L2 with | nil => exact ⟨rfl, e⟩ | cons x r => cases h
    | cons m L1 ih =>
      intro L2 g1 g2 h hf
      cases L2 with
      | nil => cases h
      | cons x L2 =>
        simp only [List.map_cons, List.flatten_cons, List.append_assoc] at hf ⊢
        obtain ⟨p1, p2⟩ := tw_inj s (g1 m (by simp)) (g2 x (by simp)) hf
        obtain ⟨q1, q2⟩ := ih L2 (fun y hy => g1 y (by simp [hy])) (fun y hy => g2 y (by simp [hy])) (by simpa using h) p2
        exact ⟨by rw [p1, q1], q2⟩
  | .nil, c1, c2, b1, b2, r1, r2, h1, h2, h => by
    obtain ⟨_, rfl⟩ := h1
    obtain ⟨_, rfl⟩ := h2
    exact ⟨rfl, h⟩
  | .cons s r, c1, c2, b1, b2, r1, r2, h1, h2, h => by
    obtain ⟨_, _, p1, p2, _, rfl, f1, f2⟩ := h1
    obtain ⟨_, _, q1, q2, _, rfl, g1, g2⟩ := h2
    rw [List.append_assoc, List.append_assoc] at h
    obtain ⟨e1, h3⟩ := tw_inj s f1 g1 h
    obtain ⟨e2, h4⟩ := tw_inj r f2 g2 h3
    exact ⟨by rw [e1, e2], h4⟩

/-- Two things, of one shape, with the same plain bytes. -/
def Twin (W : World) (s : Sh) (c1 c2 : List Value) : Prop := ∃ b, Enc W s c1 b ∧ Enc W s c2 b

theorem Twin.old {W W' : World} {s : Sh} {c1 c2 : List Value} (h : Twin W s c1 c2) (hb : Below W.heap.size W W') : Twin W' s c1 c2 := by
  obtain ⟨b, h1, h2⟩ := h
  exact ⟨b, h1.old hb, h2.old hb⟩
theorem Twin.nil {W : World} {c1 c2 : List Value} (h : Twin W .nil c1 c2) : c1 = [] ∧ c2 = [] := by
  obtain ⟨b, h1, h2⟩ := h
  exact ⟨h1.1, h2.1⟩
theorem Twin.cons {W : World} {s r : Sh} {c1 c2 : List Value} (h : Twin W (.cons s r) c1 c2) : ∃ x1 y1 x2 y2, c1 = x1 ++ y1 ∧ c2 = x2 ++ y2 ∧ Twin W s x1 x2 ∧ Twin W r y1 y2 := by
  obtain ⟨b, ⟨x1, y1, p1, p2, rfl, rfl, f1, f2⟩, ⟨x2, y2, q1, q2, rfl, hb, g1, g2⟩⟩ := h
  obtain ⟨rfl, h⟩ := tw_inj s f1 g1 hb
  obtain ⟨rfl, -⟩ := tw_inj r (r1 := []) (r2 := []) f2 g2 (by simpa using h)
  exact ⟨x1, y1, x2, y2, rfl, rfl, ⟨_, f1, g1⟩, ⟨_, f2, g2⟩⟩
theorem Twin.one {W : World} {s : Sh} {c1 c2 : List Value} (h : Twin W s c1 c2) (hs : s.wid = 1) : ∃ v u, c1 = [v] ∧ c2 = [u] ∧ Twin W s [v] [u] := by
  obtain ⟨b, h1, h2⟩ := h
  obtain ⟨v, rfl⟩ := one_of h1 hs
  obtain ⟨u, rfl⟩ := one_of h2 hs
  exact ⟨v, u, rfl, rfl, b, h1, h2⟩
theorem Twin.row {W : World} {s : Sh} {c1 c2 : List Value} (h : Twin W s c1 c2) : c1.length = s.wid ∧ c2.length = s.wid := by
  obtain ⟨b, h1, h2⟩ := h
  exact ⟨h1.wide.1, h2.wide.1⟩
theorem tw_num {W : World} {v v' : Value} (h : Twin W .num [v] [v']) : ∃ z : Nat, v = .int .u64 (z : Int) ∧ v' = .int .u64 (z : Int) := by
  obtain ⟨b, ⟨z, hz, hv, rfl⟩, ⟨y, hy, hv', e⟩⟩ := h
  cases hv; cases hv'
  have q := (numb_inj (a := z) (b := y) (r1 := []) (r2 := []) (by omega) (by omega) (by simp [e])).1
  exact ⟨z, rfl, by rw [q]⟩
theorem tw_int {W : World} {v v' : Value} (h : Twin W .int [v] [v']) : ∃ z : Int, v = .int .i64 z ∧ v' = .int .i64 z := by
  obtain ⟨b, ⟨z, hz, hv, rfl⟩, ⟨y, hy, hv', e⟩⟩ := h
  cases hv; cases hv'
  have := (numb_inj (r1 := []) (r2 := []) (by have := zig_lt hz; omega) (by have := zig_lt hy; omega) (by simpa using e)).1
  have q := congrArg unzig this
  rw [unzig_zig hz, unzig_zig hy] at q
  exact ⟨z, rfl, by rw [q]⟩
theorem tw_bool {W : World} {v v' : Value} (h : Twin W .bool [v] [v']) : ∃ q : Bool, v = .bool q ∧ v' = .bool q := by
  obtain ⟨b, ⟨q, hv, rfl⟩, ⟨p, hv', e⟩⟩ := h
  cases hv; cases hv'
  have := (numb_inj (a := if q then 1 else 0) (b := if p then 1 else 0) (r1 := []) (r2 := []) (by split <;> decide) (by split <;> decide) (by simpa using e)).1
  refine ⟨q, rfl, ?_⟩
  cases q <;> cases p <;> simp_all
theorem tw_name {W : World} {v v' : Value} (h : Twin W .name [v] [v']) : ∃ s : ByteArray, v = .string s ∧ v' = .string s := by
  obtain ⟨b, ⟨l, hv, hl, rfl⟩, ⟨m, hv', hm, e⟩⟩ := h
  cases hv; cases hv'
  have := (text_inj (a := l) (b := m) (r1 := []) (r2 := []) (by omega) (by omega) (by simpa using e)).1
  exact ⟨_, rfl, by rw [this]⟩
theorem tw_data {W : World} {v v' : Value} (h : Twin W .data [v] [v']) : ∃ l : List UInt8, Rd W v l ∧ Rd W v' l := by
  obtain ⟨b, ⟨x, l, hv, _, hr, hl, rfl⟩, ⟨y, m, hv', _, hr', hm, e⟩⟩ := h
  cases hv; cases hv'
  have := (text_inj (a := l) (b := m) (r1 := []) (r2 := []) (by omega) (by omega) (by simpa using e)).1
  subst this
  exact ⟨l, hr, hr'⟩

/-- The helper's Bytes. -/
theorem tw_Bytes {w : World} {v u : Value} (h : Twin w .data [v] [u]) : Calls Tryz.prog 57 #[v, u] w (fun e w' => e = .returned (.bool true) ∧ Below w.heap.size w w') := by
  obtain ⟨l, h1, h2⟩ := tw_data h
  refine (bytes_any v u l l w h1 h2).mono ?_
  rintro e w' ⟨rfl, rfl⟩
  exact ⟨by simp, Below.refl _ _⟩

/-- Two lists with the same bytes: as many, and each with the same bytes. -/
theorem tw_list {W : World} {s : Sh} {v u : Value} (h : Twin W (.list s) [v] [u]) : ∃ (a1 a2 : Option Addr) (n c1 c2 : Nat) (M1 M2 : List (List Value × List UInt8)), v = .slice a1 n c1 ∧ u = .slice a2 n c2 ∧ Lst W s a1 n c1 M1 ∧ Lst W s a2 n c2 M2 ∧ M1.map (·.2) = M2.map (·.2) := by
  obtain ⟨b, h1, h2⟩ := h
  obtain ⟨a1, n, c1, M1, rfl, hL1, rfl⟩ := list_open h1
  obtain ⟨a2, n2, c2, M2, rfl, hL2, hb⟩ := list_open h2
  have k1 := hL1.2.2.2
  have k2 := hL2.2.2.2
  obtain ⟨rfl, ht⟩ := numb_inj (by omega) (by omega) hb
  refine ⟨a1, a2, n, c1, c2, M1, M2, rfl, rfl, hL1, hL2, ?_⟩
  obtain ⟨-, e1, l1, -⟩ := hL1
  obtain ⟨-, e2, l2, -⟩ := hL2
  unfold takeB at ht
  have hlen : M1.length = M2.length := by omega
  rw [← l1, List.take_length, hlen, List.take_length] at ht
  clear hb l1 l2 k1 k2 h1 h2
  have key : ∀ (L1 L2 : List (List Value × List UInt8)), (∀ m ∈ L1, Enc W s m.1 m.2) → (∀ m ∈ L2, Enc W s m.1 m.2) → L1.length = L2.length → (L1.map (·.2)).flatten = (L2.map (·.2)).flatten → L1.map (·.2) = L2.map (·.2) := fun L1 => by
    induction L1 with
    | nil => intro L2 _ _ h _; cases L2 with | nil => rfl | cons x r => cases h
    | cons m L1 ih =>
      intro L2 g1 g2 h hf
      cases L2 with
      | nil => cases h
      | cons x L2 =>
        simp only [List.map_cons, List.flatten_cons] at hf ⊢
        obtain ⟨p1, p2⟩ := tw_inj s (g1 m (by simp)) (g2 x (by simp)) hf
        rw [p1, ih L2 (fun y hy => g1 y (by simp [hy])) (fun y hy => g2 y (by simp [hy])) (by simpa using h) p2]
  exact key M1 M2 e1 e2 hlen ht

/-- The k-th things of two lists with the same bytes. -/
theorem tw_get {W : World} {s : Sh} {a1 a2 : Option Addr} {n c1 c2 k : Nat} {M1 M2 : List (List Value × List UInt8)} (h1 : Lst W s a1 n c1 M1) (h2 : Lst W s a2 n c2 M2) (hm : M1.map (·.2) = M2.map (·.2)) (hs : 0 < s.wid) (hk : k < n) :
    ∃ (x y : List Value) (bk1 o1 bk2 o2 : Nat), Twin W s x y ∧ a1 = some ⟨bk1, o1, none⟩ ∧ a2 = some ⟨bk2, o2, none⟩ ∧ (∀ V, Below W.heap.size W V → ∀ (j : Nat) u, x[j]? = some u → V.cell? ⟨bk1, o1 + k * s.wid + j, none⟩ = some u) ∧ (∀ V, Below W.heap.size W V → ∀ (j : Nat) u, y[j]? = some u → V.cell? ⟨bk2, o2 + k * s.wid + j, none⟩ = some u) := by
  obtain ⟨p1, e1, l1, k1⟩ := h1
  obtain ⟨p2, e2, l2, k2⟩ := h2
  have g1 : M1[k]? = some (M1[k]'(by omega)) := List.getElem?_eq_getElem (by omega)
  have g2 : M2[k]? = some (M2[k]'(by omega)) := List.getElem?_eq_getElem (by omega)
  obtain ⟨bk1, o1, q1, r1⟩ := p1.get hs (k := k) (r := (M1[k]'(by omega)).1) (by rw [List.getElem?_map, g1]; rfl)
  obtain ⟨bk2, o2, q2, r2⟩ := p2.get hs (k := k) (r := (M2[k]'(by omega)).1) (by rw [List.getElem?_map, g2]; rfl)
  have hb : (M1[k]'(by omega)).2 = (M2[k]'(by omega)).2 := by
    have := congrArg (fun l => l[k]?) hm
    simp only [List.getElem?_map, g1, g2, Option.map_some, Option.some.injEq] at this
    exact this
  have hx := e1 _ (List.mem_of_getElem? g1)
  have hy := e2 _ (List.mem_of_getElem? g2)
  refine ⟨_, _, bk1, o1, bk2, o2, ⟨_, hx, by rw [hb]; exact hy⟩, q1, q2, fun V hV j u hu => ?_, fun V hV j u hu => ?_⟩
  · exact (hV.cell (p := ⟨bk1, o1 + k * s.wid + j, none⟩) (World.block_lt_of_cell? _ _ (r1 j u hu))).trans (r1 j u hu)
  · exact (hV.cell (p := ⟨bk2, o2 + k * s.wid + j, none⟩) (World.block_lt_of_cell? _ _ (r2 j u hu))).trans (r2 j u hu)
end Go.Proofs.YtdfccaehoodjhaaGreat

set_option linter.unusedVariables false
set_option linter.unusedSimpArgs false
set_option maxRecDepth 100000
namespace Go.Proofs.YtdfccaehoodjhaaGreat
open Go.RowKit Go.Deep

/-- What a reader has: what is left, and its fault. -/
abbrev Rst := List UInt8 × Int

/-- A list's things, one by one: how many, their bytes, and what the reader has then (behind a fault it stops). -/
def rdLF (f : Rst → List UInt8 × Rst) : Nat → Rst → Nat × List UInt8 × Rst
  | 0, st => (0, [], st)
  | n + 1, st => if (f st).2.2 ≠ 0 then (1, (f st).1, (f st).2) else ((rdLF f n (f st).2).1 + 1, (f st).1 ++ (rdLF f n (f st).2).2.1, (rdLF f n (f st).2).2.2)

/-- What is read, by its plain bytes, and what the reader has then. -/
def rdF : Sh → Rst → List UInt8 × Rst
  | .num, st => (numL (lookS maxU st.1 st.2).1, st.1.drop (lookS maxU st.1 st.2).2.1, (lookS maxU st.1 st.2).2.2)
  | .int, st => (numL (zig (unzig (lookS maxU st.1 st.2).1)), st.1.drop (lookS maxU st.1 st.2).2.1, (lookS maxU st.1 st.2).2.2)
  | .bool, st => (numL (if decide ((lookS 1 st.1 st.2).1 = 1) then 1 else 0), st.1.drop (lookS 1 st.1 st.2).2.1, (lookS 1 st.1 st.2).2.2)
  | .data, st => (textL (textS 65536 st.1 st.2).1, st.1.drop (textS 65536 st.1 st.2).2.1, (textS 65536 st.1 st.2).2.2)
  | .name, st => (textL (textS 65536 st.1 st.2).1, st.1.drop (textS 65536 st.1 st.2).2.1, (textS 65536 st.1 st.2).2.2)
  | .list s, st => (numL (rdLF (rdF s) (lookS 5000 st.1 st.2).1 (st.1.drop (lookS 5000 st.1 st.2).2.1, (lookS 5000 st.1 st.2).2.2)).1 ++ (rdLF (rdF s) (lookS 5000 st.1 st.2).1 (st.1.drop (lookS 5000 st.1 st.2).2.1, (lookS 5000 st.1 st.2).2.2)).2.1,
      (rdLF (rdF s) (lookS 5000 st.1 st.2).1 (st.1.drop (lookS 5000 st.1 st.2).2.1, (lookS 5000 st.1 st.2).2.2)).2.2)
  | .nil, st => ([], st)
  | .cons s r, st => ((rdF s st).1 ++ (rdF r (rdF s st).2).1, (rdF r (rdF s st).2).2)

/-- The cells have these plain bytes, and all their memory lies in blocks of N. -/
def EncN (N : Nat → Prop) (W : World) : Sh → List Value → List UInt8 → Prop
  | .num, cs, bs => Enc W .num cs bs
  | .int, cs, bs => Enc W .int cs bs
  | .bool, cs, bs => Enc W .bool cs bs
  | .data, cs, bs => ∃ x l, cs = [x] ∧ x.oneCell' = true ∧ Rd W x l ∧ l.length ≤ 1048576 ∧ bs = textL l ∧ ∀ k, blk x = some k → N k
  | .name, cs, bs => Enc W .name cs bs
  | .list s, cs, bs => ∃ (a : Option Addr) (c : Nat) (M : List (List Value × List UInt8)), cs = [.slice a M.length c] ∧ Rws s.wid W (.slice a M.length c) (M.map (·.1)) ∧ (∀ m ∈ M, EncN N W s m.1 m.2) ∧ M.length ≤ 1048576 ∧ bs = numL M.length ++ (M.map (·.2)).flatten ∧ ∀ k, blk (.slice a M.length c) = some k → N k
  | .nil, cs, bs => cs = [] ∧ bs = []
  | .cons s r, cs, bs => ∃ c1 c2 b1 b2, cs = c1 ++ c2 ∧ bs = b1 ++ b2 ∧ EncN N W s c1 b1 ∧ EncN N W r c2 b2

theorem EncN.enc {N : Nat → Prop} {W : World} : ∀ (s : Sh) {cs : List Value} {bs : List UInt8}, EncN N W s cs bs → Enc W s cs bs
  | .num, cs, bs, h => h
  | .int, cs, bs, h => h
  | .bool, cs, bs, h => h
  | .data, cs, bs, h => by obtain ⟨x, l, h1, h2, h3, h4, h5, _⟩ := h; exact ⟨x, l, h1, h2, h3, h4, h5⟩
  | .name, cs, bs, h => h
  | .list s, cs, bs, h => by
    obtain ⟨a, c, M, h1, h2, h3, h4, h5, _⟩ := h
    exact ⟨a, c, M, h1, h2, fun m hm => EncN.enc s (h3 m hm), h4, h5⟩
  | .nil, cs, bs, h => h
  | .cons s r, cs, bs, h => by
    obtain ⟨c1, c2, b1, b2, h1, h2, h3, h4⟩ := h
    exact ⟨c1, c2, b1, b2, h1, h2, EncN.enc s h3, EncN.enc r h4⟩

theorem EncN.mono {N N' : Nat → Prop} {W : World} (hN : ∀ k, N k → N' k) : ∀ (s : Sh) {cs : List Value} {bs : List UInt8}, EncN N W s cs bs → EncN N' W s cs bs
  | .num, cs, bs, h => h
  | .int, cs, bs, h => h
  | .bool, cs, bs, h => h
  | .data, cs, bs, h => by obtain ⟨x, l, h1, h2, h3, h4, h5, h6⟩ := h; exact ⟨x, l, h1, h2, h3, h4, h5, fun k hk => hN k (h6 k hk)⟩
  | .name, cs, bs, h => h
  | .list s, cs, bs, h => by
    obtain ⟨a, c, M, h1, h2, h3, h4, h5, h6⟩ := h
    exact ⟨a, c, M, h1, h2, fun m hm => EncN.mono hN s (h3 m hm), h4, h5, fun k hk => hN k (h6 k hk)⟩
  | .nil, cs, bs, h => h
  | .cons s r, cs, bs, h => by
    obtain ⟨c1, c2, b1, b2, h1, h2, h3, h4⟩ := h
    exact ⟨c1, c2, b1, b2, h1, h2, EncN.mono hN s h3, EncN.mono hN r h4⟩

theorem EncN.keep {N X : Nat → Prop} {W W' : World} (hk : Keep X W W') (hx : ∀ k, N k → ¬ X k) : ∀ (s : Sh) {cs : List Value} {bs : List UInt8}, EncN N W s cs bs → EncN N W' s cs bs
  | .num, cs, bs, h => h
  | .int, cs, bs, h => h
  | .bool, cs, bs, h => h
  | .data, cs, bs, h => by obtain ⟨x, l, h1, h2, h3, h4, h5, h6⟩ := h; exact ⟨x, l, h1, h2, h3.keep hk (fun _ k hb => hx k (h6 k hb)), h4, h5, h6⟩
  | .name, cs, bs, h => h
  | .list s, cs, bs, h => by
    obtain ⟨a, c, M, h1, h2, h3, h4, h5, h6⟩ := h
    exact ⟨a, c, M, h1, h2.keep hk (fun _ k hb => hx k (h6 k hb)), fun m hm => EncN.keep hk hx s (h3 m hm), h4, h5, h6⟩
  | .nil, cs, bs, h => h
  | .cons s r, cs, bs, h => by
    obtain ⟨c1, c2, b1, b2, h1, h2, h3, h4⟩ := h
    exact ⟨c1, c2, b1, b2, h1, h2, EncN.keep hk hx s h3, EncN.keep hk hx r h4⟩

theorem RAt.keepK {X : Nat → Prop} {w w' : World} {R : Nat} {l : List UInt8} {e : Int} (h : RAt w R l e) (hk : Keep X w w') (hx : ∀ k, X k → R < k) : RAt w' R l e := by
  obtain ⟨ao, c, h1, h2, h3⟩ := h
  refine ⟨ao, c, (hk.block R (lt_of_block h1) (fun hR => by have := hx R hR; omega)).trans h1, h2.keep hk (fun _ k hb hX => ?_), h3⟩
  have a1 := hx k hX
  have a2 := h3 k hb
  omega

/-- What a reading call leaves. -/
def RdP (s : Sh) (R : Nat) (w : World) (st : Rst) (cs : List Value) (w' : World) : Prop :=
  EncN (fun k => w.heap.size ≤ k ∧ k < w'.heap.size) w' s cs (rdF s st).1 ∧ RAt w' R (rdF s st).2.1 (rdF s st).2.2 ∧ Keep (fun k => k = R) w w'

theorem unzig_wf {v : Nat} (h : v < 2 ^ 64) : (Lit.int .i64 (unzig v)).wf = true := by
  have : -9223372036854775808 ≤ unzig v ∧ unzig v < 9223372036854775808 := by unfold unzig; split <;> omega
  simp only [Lit.wf, Bool.and_eq_true, decide_eq_true_eq]
  exact ⟨this.1, by show unzig v ≤ 9223372036854775807; omega⟩

theorem textS_len (m : Nat) (l : List UInt8) (e : Int) : (textS m l e).1.length ≤ m := by
  unfold textS
  split
  · simp
  · split
    · simp
    · rw [List.length_take]
      have := lookS_most m l e
      omega

section
variable {w : World} {R : Nat} {st : Rst}

set_option maxHeartbeats 1000000 in
theorem rwhole_any (h : RAt w R st.1 st.2) : Calls Tryz.prog 89 #[.agg #[.pointer (some ⟨R, 0, none⟩)]] w (fun en w' => ∃ v, en = .returned v ∧ RdP .int R w st [v] w') := by
  have hb : Below w.heap.size w (w.alloc (.cells #[.pointer (some ⟨R, 0, none⟩)] 85)) := (Below.refl _ _).alloc (Nat.le_refl _) _
  have hz := (one_cell (heap_alloc_new w (.cells #[.pointer (some ⟨R, 0, none⟩)] 85))).1
  have H := hid (h.old hb)
  have HB := hid hb
  clear h hb
  go_enter Tryz.func89, Tryz.ntmps89
  go_upto_region 1 with fail
  generalize w.alloc (.cells #[.pointer (some ⟨R, 0, none⟩)] 85) = w1 at *
  go_wp2_with (first | (go_at_call 165; refine (intR_any w1 R st.1 st.2 H.out).mono ?_; rintro en w2 ⟨rfl, h2, g2⟩; have H2 := hid h2; have G2 := hid g2; clear h2 g2))
  go_ret
  exact ⟨_, rfl, ⟨_, unzig_wf (lookS_lt _ _ _), rfl, rfl⟩, H2.out, (Keep.of_below HB.out).trans (Keep.of_grown G2.out (fun k e => by cases e; rfl))⟩

set_option maxHeartbeats 1000000 in
theorem rflag_any (h : RAt w R st.1 st.2) : Calls Tryz.prog 91 #[.agg #[.pointer (some ⟨R, 0, none⟩)]] w (fun en w' => ∃ v, en = .returned v ∧ RdP .bool R w st [v] w') := by
  have hb : Below w.heap.size w (w.alloc (.cells #[.pointer (some ⟨R, 0, none⟩)] 85)) := (Below.refl _ _).alloc (Nat.le_refl _) _
  have hz := (one_cell (heap_alloc_new w (.cells #[.pointer (some ⟨R, 0, none⟩)] 85))).1
  have H := hid (h.old hb)
  have HB := hid hb
  clear h hb
  go_enter Tryz.func91, Tryz.ntmps91
  go_upto_region 1 with fail
  generalize w.alloc (.cells #[.pointer (some ⟨R, 0, none⟩)] 85) = w1 at *
  obtain ⟨q, hq⟩ : ∃ q : Bool, q = decide ((lookS 1 st.1 st.2).1 = 1) := ⟨_, rfl⟩
  have HQ : Hid (((((lookS 1 st.1 st.2).1 : Nat) : Int) == 1) = q) := hid (by rw [hq, Bool.eq_iff_iff]; simp only [beq_iff_eq, decide_eq_true_eq]; omega)
  go_wp2_with (first | (go_at_call 166; refine (smallR_any w1 R st.1 st.2 1 (by decide) H.out).mono ?_; rintro en w2 ⟨rfl, h2, g2⟩; have H2 := hid h2; have G2 := hid g2; clear h2 g2))
  go_ret
  exact ⟨_, rfl, ⟨q, by rw [← HQ.out]; rfl, by rw [hq]; rfl⟩, H2.out, (Keep.of_below HB.out).trans (Keep.of_grown G2.out (fun k e => by cases e; rfl))⟩

set_option maxHeartbeats 1000000 in
theorem rname_any (h : RAt w R st.1 st.2) (hl : st.1.length ≤ 140737488355328) : Calls Tryz.prog 105 #[.agg #[.pointer (some ⟨R, 0, none⟩)]] w (fun en w' => ∃ v, en = .returned v ∧ RdP .name R w st [v] w') := by
  have hb : Below w.heap.size w (w.alloc (.cells #[.pointer (some ⟨R, 0, none⟩)] 85)) := (Below.refl _ _).alloc (Nat.le_refl _) _
  have hz := (one_cell (heap_alloc_new w (.cells #[.pointer (some ⟨R, 0, none⟩)] 85))).1
  have H := hid (h.old hb)
  have HB := hid hb
  clear h hb
  go_enter Tryz.func105, Tryz.ntmps105
  go_upto_region 1 with fail
  generalize w.alloc (.cells #[.pointer (some ⟨R, 0, none⟩)] 85) = w1 at *
  have C := textR_any w1 R st.1 st.2 65536 (by decide) H.out hl
  have CH := hid C
  clear C
  go_wp2_with (first | (go_at_call 162; refine CH.out.mono ?_; rintro en w2 ⟨ao, c, rfl, ho, h2, g2⟩; have HC := (Rd.own ho).conv (P := Tryz.prog) 22 9 5 Tryz.underlying22 Tryz.underlying5 Tryz.underlying9; have H2 := hid h2; have G2 := hid g2; clear ho h2 g2))
  go_ret
  exact ⟨_, rfl, ⟨_, rfl, Nat.le_trans (textS_len _ _ _) (by decide), rfl⟩, H2.out, (Keep.of_below HB.out).trans (Keep.of_grown G2.out (fun k e => by cases e; rfl))⟩
end
end Go.Proofs.YtdfccaehoodjhaaGreat

