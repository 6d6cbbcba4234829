import Derived.Lib.ConvBytes
import Derived.Laws.AppendOwn
import Derived.WalkKit
import Derived.OpenShut
import Derived.Test.YtiblambiebojmaaRows
import Derived.WalkSpells
import Derived.WalkLawsBesides
import Derived.Laws.AppendOwnNone
import Derived.ProofKit
import Derived.ShutString
import Derived.ChangeOld
import Derived.Below
import Derived.SizedLaws
import Derived.Deep.Slices
import Derived.Deep.AppendLies
import Derived.Deep.Strs
import Derived.Deep.RegionHeld3
import Derived.Deep.CutRange
import Derived.Deep.MidRow
import Derived.Great.Walk
import Derived.Test.YtiblambiebojmaaWG1
import Derived.Test.YtiblambiebojmaaWG2
set_option linter.unusedVariables false
set_option linter.unusedSimpArgs false
set_option linter.unusedVariables false
set_option linter.unusedSimpArgs false
set_option maxRecDepth 100000
namespace Go.Proofs.Ytiblambiebojmaa
open Go.RowKit Go.Deep

/-- '[]byte(s)'. -/
theorem str_conv (w : World) (m : List UInt8) (hm : m.length ≤ 1048576) : ∃ (c : Nat) (W' : World), (convert 9 23 (.string ⟨m.toArray⟩)).run Try.prog w = .ok (.slice (some ⟨w.heap.size, 0, none⟩) m.length c) W' ∧
    Rd W' (.slice (some ⟨w.heap.size, 0, none⟩) m.length c) m ∧ Below w.heap.size w W' := by
  have hs : (⟨m.toArray⟩ : ByteArray).size = m.length := by simp [ByteArray.size]
  have hrun := Lib.run_convert_string_bytes (P := Try.prog) w 9 23 5 ⟨m.toArray⟩ Try.underlying9 Try.underlying23 Try.underlying5
  have hge := grownCap_ge w m.length 0 5
  have hle := grownCap_le_maxLen w m.length 0 5 (by unfold maxLen; omega)
  rw [hs] at hrun
  refine ⟨_, _, hrun, ⟨some ⟨w.heap.size, 0, none⟩, _, rfl, hge, hle, (fun h => by cases h), fun a ha j u hu => ?_⟩, ?_⟩
  · cases ha
    have hj : j < m.length := by
      have := (List.getElem?_eq_some_iff.1 hu).1
      simpa using this
    rw [WideShapes.add_plain, Nat.zero_add, Lib.bytesWorld_cell w 5 ⟨m.toArray⟩ j (by rw [hs]; exact hj), ← hu]
    simp [List.getD, List.getElem?_eq_getElem hj, bv]
  · exact ⟨rfl, rfl, rfl, by rw [Lib.bytesWorld_size]; omega, fun k hk => Lib.bytesWorld_at_old w 5 _ k hk⟩

section
variable {W0 w : World} {KK : List (Nat × Obj)} {a : Nat} {l b : List UInt8} {v : Value}

theorem wnumE (h : St 69 W0 KK a w l) (e : Enc W0 .num [v] b) (hl : l.length + b.length ≤ 1000000000000) : Calls Try.prog 48 #[.pointer (some ⟨a, 0, none⟩), v] w (Wrote 69 W0 KK a l b) := by
  obtain ⟨n, hn, hv, rfl⟩ := e
  cases hv
  exact wnum_any h n hn hl
theorem wsignedE (h : St 69 W0 KK a w l) (e : Enc W0 .int [v] b) (hl : l.length + b.length ≤ 1000000000000) : Calls Try.prog 88 #[.pointer (some ⟨a, 0, none⟩), v] w (Wrote 69 W0 KK a l b) := by
  obtain ⟨z, hz, hv, rfl⟩ := e
  cases hv
  exact wsigned_any h z hz hl
theorem wdataE (h : St 69 W0 KK a w l) (e : Enc W0 .data [v] b) (hl : l.length + b.length ≤ 1000000000000) : Calls Try.prog 49 #[.pointer (some ⟨a, 0, none⟩), v] w (Wrote 69 W0 KK a l b) := by
  obtain ⟨x, m, hv, _, hr, hm, rfl⟩ := e
  cases hv
  exact wdata_any h v m (hr.old h.below) (by omega) hl
theorem onumE (h : St 73 W0 KK a w l) (e : Enc W0 .num [v] b) (hl : l.length + b.length ≤ 1000000000000) : Calls Try.prog 23 #[.pointer (some ⟨a, 0, none⟩), v] w (Wrote 73 W0 KK a l b) := by
  obtain ⟨n, hn, hv, rfl⟩ := e
  cases hv
  exact onum_any h n hn hl
theorem ointE (h : St 73 W0 KK a w l) (e : Enc W0 .int [v] b) (hl : l.length + b.length ≤ 1000000000000) : Calls Try.prog 26 #[.pointer (some ⟨a, 0, none⟩), v] w (Wrote 73 W0 KK a l b) := by
  obtain ⟨z, hz, hv, rfl⟩ := e
  cases hv
  exact oint_any h z hz hl
theorem owideE (h : St 73 W0 KK a w l) (e : Enc W0 .int [v] b) (hl : l.length + b.length ≤ 1000000000000) : Calls Try.prog 99 #[.pointer (some ⟨a, 0, none⟩), v] w (Wrote 73 W0 KK a l b) := by
  obtain ⟨z, hz, hv, rfl⟩ := e
  cases hv
  exact owide_any h z hz hl
theorem obytesE (h : St 73 W0 KK a w l) (e : Enc W0 .data [v] b) (hl : l.length + b.length ≤ 1000000000000) : Calls Try.prog 24 #[.pointer (some ⟨a, 0, none⟩), v] w (Wrote 73 W0 KK a l b) := by
  obtain ⟨x, m, hv, _, hr, hm, rfl⟩ := e
  cases hv
  exact obytes_any h v m (hr.old h.below) (by omega) hl

set_option maxHeartbeats 1000000 in
theorem wwholeE (h : St 69 W0 KK a w l) (e : Enc W0 .int [v] b) (hl : l.length + b.length ≤ 1000000000000) : Calls Try.prog 52 #[.pointer (some ⟨a, 0, none⟩), v] w (Wrote 69 W0 KK a l b) := by
  have C := hid (wsignedE h e hl)
  clear h e hl
  go_enter Try.func52, Try.ntmps52
  go_wp2_with (first | (go_at_call 88; refine C.out.mono ?_; rintro en w2 ⟨rfl, h2⟩))
  go_end0
  exact ⟨rfl, h2⟩
set_option maxHeartbeats 1000000 in
theorem werrnoE (h : St 69 W0 KK a w l) (e : Enc W0 .int [v] b) (hl : l.length + b.length ≤ 1000000000000) : Calls Try.prog 67 #[.pointer (some ⟨a, 0, none⟩), v] w (Wrote 69 W0 KK a l b) := by
  have C := hid (wsignedE h e hl)
  clear h e hl
  go_enter Try.func67, Try.ntmps67
  go_wp2_with (first | (go_at_call 88; refine C.out.mono ?_; rintro en w2 ⟨rfl, h2⟩))
  go_end0
  exact ⟨rfl, h2⟩

set_option maxHeartbeats 1000000 in
theorem wflagE (h : St 69 W0 KK a w l) (e : Enc W0 .bool [v] b) (hl : l.length + b.length ≤ 1000000000000) : Calls Try.prog 53 #[.pointer (some ⟨a, 0, none⟩), v] w (Wrote 69 W0 KK a l b) := by
  obtain ⟨q, hv, rfl⟩ := e
  cases hv
  cases q with
  | true =>
    have C := hid (wnum_any h 1 (by omega) hl)
    clear h hl
    go_enter Try.func53, Try.ntmps53
    go_wp2_with (first | (go_at_call 48; refine C.out.mono ?_; rintro en w2 ⟨rfl, h2⟩))
    go_end0
    exact ⟨rfl, h2⟩
  | false =>
    have C := hid (wnum_any h 0 (by omega) hl)
    clear h hl
    go_enter Try.func53, Try.ntmps53
    go_wp2_with (first | (go_at_call 48; refine C.out.mono ?_; rintro en w2 ⟨rfl, h2⟩))
    go_end0
    exact ⟨rfl, h2⟩
set_option maxHeartbeats 1000000 in
theorem oboolE (h : St 73 W0 KK a w l) (e : Enc W0 .bool [v] b) (hl : l.length + b.length ≤ 1000000000000) : Calls Try.prog 27 #[.pointer (some ⟨a, 0, none⟩), v] w (Wrote 73 W0 KK a l b) := by
  obtain ⟨q, hv, rfl⟩ := e
  cases hv
  cases q with
  | true =>
    have C := hid (onum_any h 1 (by omega) hl)
    clear h hl
    go_enter Try.func27, Try.ntmps27
    go_wp2_with (first | (go_at_call 23; refine C.out.mono ?_; rintro en w2 ⟨rfl, h2⟩))
    go_end0
    exact ⟨rfl, h2⟩
  | false =>
    have C := hid (onum_any h 0 (by omega) hl)
    clear h hl
    go_enter Try.func27, Try.ntmps27
    go_wp2_with (first | (go_at_call 23; refine C.out.mono ?_; rintro en w2 ⟨rfl, h2⟩))
    go_end0
    exact ⟨rfl, h2⟩

set_option maxHeartbeats 1000000 in
theorem wnameE (h : St 69 W0 KK a w l) (e : Enc W0 .name [v] b) (hl : l.length + b.length ≤ 1000000000000) : Calls Try.prog 63 #[.pointer (some ⟨a, 0, none⟩), v] w (Wrote 69 W0 KK a l b) := by
  obtain ⟨m, hv, hm, rfl⟩ := e
  cases hv
  obtain ⟨c, W', hrun, hr, hb⟩ := str_conv w m hm
  have C := hid (wdata_any (h.old hb) _ m hr (by omega) hl)
  have HR := hid hrun
  clear h hl hr hb hrun
  go_enter Try.func63, Try.ntmps63
  go_wp2_with fail
  rw [HR.out]
  go_wp2_with (first | (go_at_call 49; refine C.out.mono ?_; rintro en w2 ⟨rfl, h2⟩))
  go_end0
  exact ⟨rfl, h2⟩
set_option maxHeartbeats 1000000 in
theorem otextE (h : St 73 W0 KK a w l) (e : Enc W0 .name [v] b) (hl : l.length + b.length ≤ 1000000000000) : Calls Try.prog 34 #[.pointer (some ⟨a, 0, none⟩), v] w (Wrote 73 W0 KK a l b) := by
  obtain ⟨m, hv, hm, rfl⟩ := e
  cases hv
  obtain ⟨c, W', hrun, hr, hb⟩ := str_conv w m hm
  have C := hid (obytes_any (h.old hb) _ m hr (by omega) hl)
  have HR := hid hrun
  clear h hl hr hb hrun
  go_enter Try.func34, Try.ntmps34
  go_wp2_with fail
  rw [HR.out]
  go_wp2_with (first | (go_at_call 24; refine C.out.mono ?_; rintro en w2 ⟨rfl, h2⟩))
  go_end0
  exact ⟨rfl, h2⟩
end
end Go.Proofs.Ytiblambiebojmaa

set_option linter.unusedVariables false
set_option linter.unusedSimpArgs false
set_option maxRecDepth 100000
namespace Go.Proofs.Ytiblambiebojmaa
open Go.RowKit Go.Deep

/-- The bytes of the first k things of a list. -/
def takeB (M : List (List Value × List UInt8)) (k : Nat) : List UInt8 := ((M.take k).map (·.2)).flatten

/-- A list in memory. -/
def Lst (W0 : World) (s : Sh) (ao : Option Addr) (n c : Nat) (M : List (List Value × List UInt8)) : Prop :=
  Rws s.wid W0 (.slice ao n c) (M.map (·.1)) ∧ (∀ m ∈ M, Enc W0 s m.1 m.2) ∧ M.length = n ∧ n ≤ 1048576

theorem list_open {W0 : World} {s : Sh} {v : Value} {b : List UInt8} (h : Enc W0 (.list s) [v] b) : ∃ (ao : Option Addr) (n c : Nat) (M : List (List Value × List UInt8)), v = .slice ao n c ∧ Lst W0 s ao n c M ∧ b = numL n ++ takeB M n := by
  obtain ⟨ao, c, M, hv, h1, h2, h3, rfl⟩ := h
  cases hv
  exact ⟨ao, M.length, c, M, rfl, ⟨h1, h2, rfl, h3⟩, by unfold takeB; rw [List.take_length]⟩

theorem Lst.get {W0 : World} {s : Sh} {ao : Option Addr} {n c k : Nat} {M : List (List Value × List UInt8)} (h : Lst W0 s ao n c M) (hs : 0 < s.wid) (hk : k < n) :
    ∃ (m : List Value × List UInt8) (b off : Nat), Enc W0 s m.1 m.2 ∧ ao = some ⟨b, off, none⟩ ∧ (∀ W, Below W0.heap.size W0 W → ∀ (j : Nat) u, m.1[j]? = some u → W.cell? ⟨b, off + k * s.wid + j, none⟩ = some u) ∧ takeB M (k + 1) = takeB M k ++ m.2 ∧ (takeB M k).length + m.2.length ≤ (takeB M n).length := by
  obtain ⟨h1, h2, h3, h4⟩ := h
  have hkl : k < M.length := by omega
  have hm : M[k]? = some M[k] := List.getElem?_eq_getElem hkl
  obtain ⟨b, off, hao, hc⟩ := h1.get hs (k := k) (r := M[k].1) (by rw [List.getElem?_map, hm]; rfl)
  have ht : takeB M (k + 1) = takeB M k ++ M[k].2 := by
    unfold takeB
    rw [List.take_add_one, hm]
    show ((M.take k ++ [M[k]]).map (·.2)).flatten = _
    rw [List.map_append, List.flatten_append]
    simp
  refine ⟨M[k], b, off, h2 _ (List.getElem_mem hkl), hao, fun W hb j u hu => (hb.cell (p := ⟨b, off + k * s.wid + j, none⟩) (World.block_lt_of_cell? _ _ (hc j u hu))).trans (hc j u hu), ht, ?_⟩
  have e : takeB M n = takeB M (k + 1) ++ ((M.drop (k + 1)).map (·.2)).flatten := by
    unfold takeB
    rw [← h3, List.take_length, ← List.flatten_append, ← List.map_append, List.take_append_drop]
  rw [e, ht]
  simp only [List.length_append]
  omega

theorem Lst.cap {W0 : World} {s : Sh} {ao : Option Addr} {n c : Nat} {M : List (List Value × List UInt8)} (h : Lst W0 s ao n c M) : n ≤ c ∧ n ≤ 1048576 ∧ n < 18446744073709551616 ∧ IntKind.u64.wrap (n : Int) = (n : Int) := by
  obtain ⟨h1, h2, h3, h4⟩ := h
  obtain ⟨_, _, e, q1, _⟩ := h1.form
  simp only [Value.slice.injEq, List.length_map] at e q1
  refine ⟨by omega, by omega, by omega, ?_⟩
  rw [wrap_u64]; omega

theorem one_of {W : World} {s : Sh} {cs : List Value} {b : List UInt8} (h : Enc W s cs b) (hs : s.wid = 1) : ∃ v, cs = [v] := by
  have := h.wide.1
  rw [hs] at this
  exact List.length_eq_one_iff.1 this

/-- A cell of a block that stays. -/
theorem box_cell {T : TypeId} {W0 w : World} {B : Nat} {cs : List Value} {t : TypeId} {KK : List (Nat × Obj)} {a : Nat} {l : List UInt8} (h : St T W0 ((B, .cells cs.toArray t (0, 0)) :: KK) a w l) (j : Nat) (u : Value) (hj : cs[j]? = some u) : w.cell? ⟨B, j, none⟩ = some u := by
  have := h.at
  simp [World.cell?, this, hj]

theorem takeB_zero (M : List (List Value × List UInt8)) : takeB M 0 = [] := rfl

theorem form_int {W : World} {v : Value} {b : List UInt8} (h : Enc W .int [v] b) : ∃ z : Int, v = .int .i64 z := by
  obtain ⟨z, _, hv, _⟩ := h; cases hv; exact ⟨z, rfl⟩
theorem form_bool {W : World} {v : Value} {b : List UInt8} (h : Enc W .bool [v] b) : ∃ q : Bool, v = .bool q := by
  obtain ⟨q, hv, _⟩ := h; cases hv; exact ⟨q, rfl⟩
theorem form_name {W : World} {v : Value} {b : List UInt8} (h : Enc W .name [v] b) : ∃ s : ByteArray, v = .string s := by
  obtain ⟨l, hv, _⟩ := h; cases hv; exact ⟨_, rfl⟩
theorem form_data {W : World} {v : Value} {b : List UInt8} (h : Enc W .data [v] b) : ∃ (a : Option Addr) (n c : Nat), v = .slice a n c := by
  obtain ⟨x, l, hv, _, hr, _⟩ := h
  cases hv
  obtain ⟨ao, c, rfl, _⟩ := hr
  exact ⟨ao, _, c, rfl⟩
theorem form_list {W : World} {s : Sh} {v : Value} {b : List UInt8} (h : Enc W (.list s) [v] b) : ∃ (a : Option Addr) (n c : Nat), v = .slice a n c := by
  obtain ⟨a, c, M, hv, _⟩ := h; cases hv; exact ⟨a, _, c, rfl⟩

theorem len_now {cur b r : List UInt8} {N : Nat} (h : cur.length + (b ++ r).length ≤ N) : cur.length + b.length ≤ N := by
  rw [List.length_append] at h; omega
theorem len_step {cur b r : List UInt8} {N : Nat} (h : cur.length + (b ++ r).length ≤ N) : (cur ++ b).length + r.length ≤ N := by
  rw [List.length_append] at h ⊢; omega

/-- A new writer, behind the box of what it shall write. -/
theorem St.begin (W0 : World) (cs : Array Value) (t T : TypeId) : St T W0 [(W0.heap.size, .cells cs t (0, 0))] (W0.heap.size + 1) ((W0.alloc (.cells cs t)).alloc (.cells #[.slice none 0 0] T)) [] := by
  have h1 := heap_alloc2_new W0 (.cells cs t) (.cells #[.slice none 0 0] T)
  have hb : Below W0.heap.size W0 ((W0.alloc (.cells cs t)).alloc (.cells #[.slice none 0 0] T)) := ((Below.refl _ _).alloc (Nat.le_refl _) _).alloc (by simp) _
  have h0 := (Below.heap_alloc (W0.alloc (.cells cs t)) (.cells #[.slice none 0 0] T) W0.heap.size (by simp)).trans (heap_alloc_new W0 (.cells cs t))
  refine ⟨none, 0, h1, World.ownsRow_nil _ _ _ _, by omega, by simp [Value.ownBlock], hb, fun p hp => ?_⟩
  rcases List.mem_cons.1 hp with rfl | hp
  · exact ⟨h0, by show W0.heap.size ≠ _; omega, by simp [Value.ownBlock]⟩
  · cases hp
theorem St.ends {T : TypeId} {W0 w : World} {K : List (Nat × Obj)} {a : Nat} {l : List UInt8} (h : St T W0 K a w l) : ∃ cx : Value, w.heap[a]? = some (.cells #[cx] T (0, 0)) ∧ Gives 5 W0 l (.returned cx) w := by
  obtain ⟨ao, c, h1, h2, h3, h4, h5, h6⟩ := h
  exact ⟨_, h1, _, rfl, h2, h5⟩
def sValue : Sh := .cons .int (.cons .int (.cons .name .nil))
def sColumn : Sh := .cons .name (.cons .int (.cons .bool .nil))
def sTable : Sh := .cons .int (.cons .name (.cons (.list sColumn) (.cons (.list .int) .nil)))
def sIndex : Sh := .cons .int (.cons .int (.cons .name (.cons (.list .int) (.cons .bool (.cons .int (.cons .bool .nil))))))
def sCatalog : Sh := .cons .int (.cons .int (.cons (.list sTable) (.cons (.list sIndex) .nil)))
def sPair : Sh := .cons .data (.cons .data (.cons .int .nil))
def sWrite : Sh := .cons .data (.cons .data (.cons .bool .nil))
def sSpan : Sh := .cons .data (.cons .data .nil)
def sSeen : Sh := .cons sSpan (.cons (.list sPair) .nil)
def sCommand : Sh := .cons .int (.cons .int (.cons .num (.cons .int (.cons .int (.cons .int (.cons .bool (.cons .data (.cons sSpan (.cons (.list sPair) (.cons (.list sSeen) (.cons (.list sWrite) (.cons sTable (.cons sIndex (.cons .name .nil))))))))))))))
def sOwner : Sh := .cons .int (.cons .data .nil)
def sRoutes : Sh := .cons .int (.cons .int (.cons (.list sOwner) (.cons .int (.cons .data .nil))))
def sReply : Sh := .cons .int (.cons .num (.cons .int (.cons .bool (.cons (.list sPair) (.cons (.list .num) (.cons sCatalog (.cons sRoutes .nil)))))))
def sSet : Sh := .cons .int (.cons sValue .nil)
def sOp : Sh := .cons .int (.cons .name (.cons .name (.cons (.list sValue) (.cons (.list sValue) (.cons (.list sSet) (.cons (.list sValue) (.cons (.list sValue) (.cons .int (.cons .bool (.cons (.list .data) .nil))))))))))
def sAsk : Sh := .cons .int (.cons (.list sOp) (.cons sTable (.cons sIndex (.cons .name (.cons .int (.cons .data .nil))))))
def sCall : Sh := .cons .num (.cons .num (.cons .data .nil))

theorem Value_cells {W0 : World} {cs : List Value} {bs : List UInt8} (h : Enc W0 sValue cs bs) : ∃ (v0 v1 v2 : Value) (b0 b1 b2 : List UInt8), cs = [v0, v1, v2] ∧ bs = b0 ++ (b1 ++ b2) ∧ Enc W0 .int [v0] b0 ∧ Enc W0 .int [v1] b1 ∧ Enc W0 .name [v2] b2 := by
  unfold sValue at h
  obtain ⟨c0, r0, p0, q0, rfl, rfl, f0, h⟩ := h
  obtain ⟨v0, rfl⟩ := one_of f0 rfl
  have e0 := f0
  obtain ⟨c1, r1, p1, q1, rfl, rfl, f1, h⟩ := h
  obtain ⟨v1, rfl⟩ := one_of f1 rfl
  have e1 := f1
  obtain ⟨c2, r2, p2, q2, rfl, rfl, f2, h⟩ := h
  obtain ⟨v2, rfl⟩ := one_of f2 rfl
  have e2 := f2
  obtain ⟨rfl, rfl⟩ := h
  exact ⟨v0, v1, v2, p0, p1, p2, rfl, by simp [List.append_assoc], e0, e1, e2⟩
theorem Column_cells {W0 : World} {cs : List Value} {bs : List UInt8} (h : Enc W0 sColumn cs bs) : ∃ (v0 v1 v2 : Value) (b0 b1 b2 : List UInt8), cs = [v0, v1, v2] ∧ bs = b0 ++ (b1 ++ b2) ∧ Enc W0 .name [v0] b0 ∧ Enc W0 .int [v1] b1 ∧ Enc W0 .bool [v2] b2 := by
  unfold sColumn at h
  obtain ⟨c0, r0, p0, q0, rfl, rfl, f0, h⟩ := h
  obtain ⟨v0, rfl⟩ := one_of f0 rfl
  have e0 := f0
  obtain ⟨c1, r1, p1, q1, rfl, rfl, f1, h⟩ := h
  obtain ⟨v1, rfl⟩ := one_of f1 rfl
  have e1 := f1
  obtain ⟨c2, r2, p2, q2, rfl, rfl, f2, h⟩ := h
  obtain ⟨v2, rfl⟩ := one_of f2 rfl
  have e2 := f2
  obtain ⟨rfl, rfl⟩ := h
  exact ⟨v0, v1, v2, p0, p1, p2, rfl, by simp [List.append_assoc], e0, e1, e2⟩
theorem Table_cells {W0 : World} {cs : List Value} {bs : List UInt8} (h : Enc W0 sTable cs bs) : ∃ (v0 v1 v2 v3 : Value) (b0 b1 b2 b3 : List UInt8), cs = [v0, v1, v2, v3] ∧ bs = b0 ++ (b1 ++ (b2 ++ b3)) ∧ Enc W0 .int [v0] b0 ∧ Enc W0 .name [v1] b1 ∧ Enc W0 (.list sColumn) [v2] b2 ∧ Enc W0 (.list .int) [v3] b3 := by
  unfold sTable at h
  obtain ⟨c0, r0, p0, q0, rfl, rfl, f0, h⟩ := h
  obtain ⟨v0, rfl⟩ := one_of f0 rfl
  have e0 := f0
  obtain ⟨c1, r1, p1, q1, rfl, rfl, f1, h⟩ := h
  obtain ⟨v1, rfl⟩ := one_of f1 rfl
  have e1 := f1
  obtain ⟨c2, r2, p2, q2, rfl, rfl, f2, h⟩ := h
  obtain ⟨v2, rfl⟩ := one_of f2 rfl
  have e2 := f2
  obtain ⟨c3, r3, p3, q3, rfl, rfl, f3, h⟩ := h
  obtain ⟨v3, rfl⟩ := one_of f3 rfl
  have e3 := f3
  obtain ⟨rfl, rfl⟩ := h
  exact ⟨v0, v1, v2, v3, p0, p1, p2, p3, rfl, by simp [List.append_assoc], e0, e1, e2, e3⟩
theorem Index_cells {W0 : World} {cs : List Value} {bs : List UInt8} (h : Enc W0 sIndex cs bs) : ∃ (v0 v1 v2 v3 v4 v5 v6 : Value) (b0 b1 b2 b3 b4 b5 b6 : List UInt8), cs = [v0, v1, v2, v3, v4, v5, v6] ∧ bs = b0 ++ (b1 ++ (b2 ++ (b3 ++ (b4 ++ (b5 ++ b6))))) ∧ Enc W0 .int [v0] b0 ∧ Enc W0 .int [v1] b1 ∧ Enc W0 .name [v2] b2 ∧ Enc W0 (.list .int) [v3] b3 ∧ Enc W0 .bool [v4] b4 ∧ Enc W0 .int [v5] b5 ∧ Enc W0 .bool [v6] b6 := by
  unfold sIndex at h
  obtain ⟨c0, r0, p0, q0, rfl, rfl, f0, h⟩ := h
  obtain ⟨v0, rfl⟩ := one_of f0 rfl
  have e0 := f0
  obtain ⟨c1, r1, p1, q1, rfl, rfl, f1, h⟩ := h
  obtain ⟨v1, rfl⟩ := one_of f1 rfl
  have e1 := f1
  obtain ⟨c2, r2, p2, q2, rfl, rfl, f2, h⟩ := h
  obtain ⟨v2, rfl⟩ := one_of f2 rfl
  have e2 := f2
  obtain ⟨c3, r3, p3, q3, rfl, rfl, f3, h⟩ := h
  obtain ⟨v3, rfl⟩ := one_of f3 rfl
  have e3 := f3
  obtain ⟨c4, r4, p4, q4, rfl, rfl, f4, h⟩ := h
  obtain ⟨v4, rfl⟩ := one_of f4 rfl
  have e4 := f4
  obtain ⟨c5, r5, p5, q5, rfl, rfl, f5, h⟩ := h
  obtain ⟨v5, rfl⟩ := one_of f5 rfl
  have e5 := f5
  obtain ⟨c6, r6, p6, q6, rfl, rfl, f6, h⟩ := h
  obtain ⟨v6, rfl⟩ := one_of f6 rfl
  have e6 := f6
  obtain ⟨rfl, rfl⟩ := h
  exact ⟨v0, v1, v2, v3, v4, v5, v6, p0, p1, p2, p3, p4, p5, p6, rfl, by simp [List.append_assoc], e0, e1, e2, e3, e4, e5, e6⟩
theorem Catalog_cells {W0 : World} {cs : List Value} {bs : List UInt8} (h : Enc W0 sCatalog cs bs) : ∃ (v0 v1 v2 v3 : Value) (b0 b1 b2 b3 : List UInt8), cs = [v0, v1, v2, v3] ∧ bs = b0 ++ (b1 ++ (b2 ++ b3)) ∧ Enc W0 .int [v0] b0 ∧ Enc W0 .int [v1] b1 ∧ Enc W0 (.list sTable) [v2] b2 ∧ Enc W0 (.list sIndex) [v3] b3 := by
  unfold sCatalog at h
  obtain ⟨c0, r0, p0, q0, rfl, rfl, f0, h⟩ := h
  obtain ⟨v0, rfl⟩ := one_of f0 rfl
  have e0 := f0
  obtain ⟨c1, r1, p1, q1, rfl, rfl, f1, h⟩ := h
  obtain ⟨v1, rfl⟩ := one_of f1 rfl
  have e1 := f1
  obtain ⟨c2, r2, p2, q2, rfl, rfl, f2, h⟩ := h
  obtain ⟨v2, rfl⟩ := one_of f2 rfl
  have e2 := f2
  obtain ⟨c3, r3, p3, q3, rfl, rfl, f3, h⟩ := h
  obtain ⟨v3, rfl⟩ := one_of f3 rfl
  have e3 := f3
  obtain ⟨rfl, rfl⟩ := h
  exact ⟨v0, v1, v2, v3, p0, p1, p2, p3, rfl, by simp [List.append_assoc], e0, e1, e2, e3⟩
theorem Pair_cells {W0 : World} {cs : List Value} {bs : List UInt8} (h : Enc W0 sPair cs bs) : ∃ (v0 v1 v2 : Value) (b0 b1 b2 : List UInt8), cs = [v0, v1, v2] ∧ bs = b0 ++ (b1 ++ b2) ∧ Enc W0 .data [v0] b0 ∧ Enc W0 .data [v1] b1 ∧ Enc W0 .int [v2] b2 := by
  unfold sPair at h
  obtain ⟨c0, r0, p0, q0, rfl, rfl, f0, h⟩ := h
  obtain ⟨v0, rfl⟩ := one_of f0 rfl
  have e0 := f0
  obtain ⟨c1, r1, p1, q1, rfl, rfl, f1, h⟩ := h
  obtain ⟨v1, rfl⟩ := one_of f1 rfl
  have e1 := f1
  obtain ⟨c2, r2, p2, q2, rfl, rfl, f2, h⟩ := h
  obtain ⟨v2, rfl⟩ := one_of f2 rfl
  have e2 := f2
  obtain ⟨rfl, rfl⟩ := h
  exact ⟨v0, v1, v2, p0, p1, p2, rfl, by simp [List.append_assoc], e0, e1, e2⟩
theorem Write_cells {W0 : World} {cs : List Value} {bs : List UInt8} (h : Enc W0 sWrite cs bs) : ∃ (v0 v1 v2 : Value) (b0 b1 b2 : List UInt8), cs = [v0, v1, v2] ∧ bs = b0 ++ (b1 ++ b2) ∧ Enc W0 .data [v0] b0 ∧ Enc W0 .data [v1] b1 ∧ Enc W0 .bool [v2] b2 := by
  unfold sWrite at h
  obtain ⟨c0, r0, p0, q0, rfl, rfl, f0, h⟩ := h
  obtain ⟨v0, rfl⟩ := one_of f0 rfl
  have e0 := f0
  obtain ⟨c1, r1, p1, q1, rfl, rfl, f1, h⟩ := h
  obtain ⟨v1, rfl⟩ := one_of f1 rfl
  have e1 := f1
  obtain ⟨c2, r2, p2, q2, rfl, rfl, f2, h⟩ := h
  obtain ⟨v2, rfl⟩ := one_of f2 rfl
  have e2 := f2
  obtain ⟨rfl, rfl⟩ := h
  exact ⟨v0, v1, v2, p0, p1, p2, rfl, by simp [List.append_assoc], e0, e1, e2⟩
theorem Span_cells {W0 : World} {cs : List Value} {bs : List UInt8} (h : Enc W0 sSpan cs bs) : ∃ (v0 v1 : Value) (b0 b1 : List UInt8), cs = [v0, v1] ∧ bs = b0 ++ b1 ∧ Enc W0 .data [v0] b0 ∧ Enc W0 .data [v1] b1 := by
  unfold sSpan at h
  obtain ⟨c0, r0, p0, q0, rfl, rfl, f0, h⟩ := h
  obtain ⟨v0, rfl⟩ := one_of f0 rfl
  have e0 := f0
  obtain ⟨c1, r1, p1, q1, rfl, rfl, f1, h⟩ := h
  obtain ⟨v1, rfl⟩ := one_of f1 rfl
  have e1 := f1
  obtain ⟨rfl, rfl⟩ := h
  exact ⟨v0, v1, p0, p1, rfl, by simp [List.append_assoc], e0, e1⟩
theorem Seen_cells {W0 : World} {cs : List Value} {bs : List UInt8} (h : Enc W0 sSeen cs bs) : ∃ (v0 v1 v2 : Value) (b0 b1 b2 : List UInt8), cs = [v0, v1, v2] ∧ bs = b0 ++ (b1 ++ b2) ∧ Enc W0 .data [v0] b0 ∧ Enc W0 .data [v1] b1 ∧ Enc W0 (.list sPair) [v2] b2 := by
  unfold sSeen at h
  obtain ⟨c0, r0, p0, q0, rfl, rfl, f0, h⟩ := h
  obtain ⟨v0, v1, b0, b1, rfl, rfl, e0, e1⟩ := Span_cells f0
  obtain ⟨c1, r1, p1, q1, rfl, rfl, f1, h⟩ := h
  obtain ⟨v2, rfl⟩ := one_of f1 rfl
  have e2 := f1
  obtain ⟨rfl, rfl⟩ := h
  exact ⟨v0, v1, v2, b0, b1, p1, rfl, by simp [List.append_assoc], e0, e1, e2⟩
theorem Command_cells {W0 : World} {cs : List Value} {bs : List UInt8} (h : Enc W0 sCommand cs bs) : ∃ (v0 v1 v2 v3 v4 v5 v6 v7 v8 v9 v10 v11 v12 v13 v14 v15 v16 v17 v18 v19 v20 v21 v22 v23 v24 : Value) (b0 b1 b2 b3 b4 b5 b6 b7 b8 b9 b10 b11 b12 b13 b14 b15 b16 b17 b18 b19 b20 b21 b22 b23 b24 : List UInt8), cs = [v0, v1, v2, v3, v4, v5, v6, v7, v8, v9, v10, v11, v12, v13, v14, v15, v16, v17, v18, v19, v20, v21, v22, v23, v24] ∧ bs = b0 ++ (b1 ++ (b2 ++ (b3 ++ (b4 ++ (b5 ++ (b6 ++ (b7 ++ (b8 ++ (b9 ++ (b10 ++ (b11 ++ (b12 ++ (b13 ++ (b14 ++ (b15 ++ (b16 ++ (b17 ++ (b18 ++ (b19 ++ (b20 ++ (b21 ++ (b22 ++ (b23 ++ b24))))))))))))))))))))))) ∧ Enc W0 .int [v0] b0 ∧ Enc W0 .int [v1] b1 ∧ Enc W0 .num [v2] b2 ∧ Enc W0 .int [v3] b3 ∧ Enc W0 .int [v4] b4 ∧ Enc W0 .int [v5] b5 ∧ Enc W0 .bool [v6] b6 ∧ Enc W0 .data [v7] b7 ∧ Enc W0 .data [v8] b8 ∧ Enc W0 .data [v9] b9 ∧ Enc W0 (.list sPair) [v10] b10 ∧ Enc W0 (.list sSeen) [v11] b11 ∧ Enc W0 (.list sWrite) [v12] b12 ∧ Enc W0 .int [v13] b13 ∧ Enc W0 .name [v14] b14 ∧ Enc W0 (.list sColumn) [v15] b15 ∧ Enc W0 (.list .int) [v16] b16 ∧ Enc W0 .int [v17] b17 ∧ Enc W0 .int [v18] b18 ∧ Enc W0 .name [v19] b19 ∧ Enc W0 (.list .int) [v20] b20 ∧ Enc W0 .bool [v21] b21 ∧ Enc W0 .int [v22] b22 ∧ Enc W0 .bool [v23] b23 ∧ Enc W0 .name [v24] b24 := by
  unfold sCommand at h
  obtain ⟨c0, r0, p0, q0, rfl, rfl, f0, h⟩ := h
  obtain ⟨v0, rfl⟩ := one_of f0 rfl
  have e0 := f0
  obtain ⟨c1, r1, p1, q1, rfl, rfl, f1, h⟩ := h
  obtain ⟨v1, rfl⟩ := one_of f1 rfl
  have e1 := f1
  obtain ⟨c2, r2, p2, q2, rfl, rfl, f2, h⟩ := h
  obtain ⟨v2, rfl⟩ := one_of f2 rfl
  have e2 := f2
  obtain ⟨c3, r3, p3, q3, rfl, rfl, f3, h⟩ := h
  obtain ⟨v3, rfl⟩ := one_of f3 rfl
  have e3 := f3
  obtain ⟨c4, r4, p4, q4, rfl, rfl, f4, h⟩ := h
  obtain ⟨v4, rfl⟩ := one_of f4 rfl
  have e4 := f4
  obtain ⟨c5, r5, p5, q5, rfl, rfl, f5, h⟩ := h
  obtain ⟨v5, rfl⟩ := one_of f5 rfl
  have e5 := f5
  obtain ⟨c6, r6, p6, q6, rfl, rfl, f6, h⟩ := h
  obtain ⟨v6, rfl⟩ := one_of f6 rfl
  have e6 := f6
  obtain ⟨c7, r7, p7, q7, rfl, rfl, f7, h⟩ := h
  obtain ⟨v7, rfl⟩ := one_of f7 rfl
  have e7 := f7
  obtain ⟨c8, r8, p8, q8, rfl, rfl, f8, h⟩ := h
  obtain ⟨v8, v9, b8, b9, rfl, rfl, e8, e9⟩ := Span_cells f8
  obtain ⟨c9, r9, p9, q9, rfl, rfl, f9, h⟩ := h
  obtain ⟨v10, rfl⟩ := one_of f9 rfl
  have e10 := f9
  obtain ⟨c10, r10, p10, q10, rfl, rfl, f10, h⟩ := h
  obtain ⟨v11, rfl⟩ := one_of f10 rfl
  have e11 := f10
  obtain ⟨c11, r11, p11, q11, rfl, rfl, f11, h⟩ := h
  obtain ⟨v12, rfl⟩ := one_of f11 rfl
  have e12 := f11
  obtain ⟨c12, r12, p12, q12, rfl, rfl, f12, h⟩ := h
  obtain ⟨v13, v14, v15, v16, b13, b14, b15, b16, rfl, rfl, e13, e14, e15, e16⟩ := Table_cells f12
  obtain ⟨c13, r13, p13, q13, rfl, rfl, f13, h⟩ := h
  obtain ⟨v17, v18, v19, v20, v21, v22, v23, b17, b18, b19, b20, b21, b22, b23, rfl, rfl, e17, e18, e19, e20, e21, e22, e23⟩ := Index_cells f13
  obtain ⟨c14, r14, p14, q14, rfl, rfl, f14, h⟩ := h
  obtain ⟨v24, rfl⟩ := one_of f14 rfl
  have e24 := f14
  obtain ⟨rfl, rfl⟩ := h
  exact ⟨v0, v1, v2, v3, v4, v5, v6, v7, v8, v9, v10, v11, v12, v13, v14, v15, v16, v17, v18, v19, v20, v21, v22, v23, v24, p0, p1, p2, p3, p4, p5, p6, p7, b8, b9, p9, p10, p11, b13, b14, b15, b16, b17, b18, b19, b20, b21, b22, b23, p14, rfl, by simp [List.append_assoc], e0, e1, e2, e3, e4, e5, e6, e7, e8, e9, e10, e11, e12, e13, e14, e15, e16, e17, e18, e19, e20, e21, e22, e23, e24⟩
theorem Owner_cells {W0 : World} {cs : List Value} {bs : List UInt8} (h : Enc W0 sOwner cs bs) : ∃ (v0 v1 : Value) (b0 b1 : List UInt8), cs = [v0, v1] ∧ bs = b0 ++ b1 ∧ Enc W0 .int [v0] b0 ∧ Enc W0 .data [v1] b1 := by
  unfold sOwner at h
  obtain ⟨c0, r0, p0, q0, rfl, rfl, f0, h⟩ := h
  obtain ⟨v0, rfl⟩ := one_of f0 rfl
  have e0 := f0
  obtain ⟨c1, r1, p1, q1, rfl, rfl, f1, h⟩ := h
  obtain ⟨v1, rfl⟩ := one_of f1 rfl
  have e1 := f1
  obtain ⟨rfl, rfl⟩ := h
  exact ⟨v0, v1, p0, p1, rfl, by simp [List.append_assoc], e0, e1⟩
theorem Routes_cells {W0 : World} {cs : List Value} {bs : List UInt8} (h : Enc W0 sRoutes cs bs) : ∃ (v0 v1 v2 v3 v4 : Value) (b0 b1 b2 b3 b4 : List UInt8), cs = [v0, v1, v2, v3, v4] ∧ bs = b0 ++ (b1 ++ (b2 ++ (b3 ++ b4))) ∧ Enc W0 .int [v0] b0 ∧ Enc W0 .int [v1] b1 ∧ Enc W0 (.list sOwner) [v2] b2 ∧ Enc W0 .int [v3] b3 ∧ Enc W0 .data [v4] b4 := by
  unfold sRoutes at h
  obtain ⟨c0, r0, p0, q0, rfl, rfl, f0, h⟩ := h
  obtain ⟨v0, rfl⟩ := one_of f0 rfl
  have e0 := f0
  obtain ⟨c1, r1, p1, q1, rfl, rfl, f1, h⟩ := h
  obtain ⟨v1, rfl⟩ := one_of f1 rfl
  have e1 := f1
  obtain ⟨c2, r2, p2, q2, rfl, rfl, f2, h⟩ := h
  obtain ⟨v2, rfl⟩ := one_of f2 rfl
  have e2 := f2
  obtain ⟨c3, r3, p3, q3, rfl, rfl, f3, h⟩ := h
  obtain ⟨v3, rfl⟩ := one_of f3 rfl
  have e3 := f3
  obtain ⟨c4, r4, p4, q4, rfl, rfl, f4, h⟩ := h
  obtain ⟨v4, rfl⟩ := one_of f4 rfl
  have e4 := f4
  obtain ⟨rfl, rfl⟩ := h
  exact ⟨v0, v1, v2, v3, v4, p0, p1, p2, p3, p4, rfl, by simp [List.append_assoc], e0, e1, e2, e3, e4⟩
theorem Reply_cells {W0 : World} {cs : List Value} {bs : List UInt8} (h : Enc W0 sReply cs bs) : ∃ (v0 v1 v2 v3 v4 v5 v6 v7 v8 v9 v10 v11 v12 v13 v14 : Value) (b0 b1 b2 b3 b4 b5 b6 b7 b8 b9 b10 b11 b12 b13 b14 : List UInt8), cs = [v0, v1, v2, v3, v4, v5, v6, v7, v8, v9, v10, v11, v12, v13, v14] ∧ bs = b0 ++ (b1 ++ (b2 ++ (b3 ++ (b4 ++ (b5 ++ (b6 ++ (b7 ++ (b8 ++ (b9 ++ (b10 ++ (b11 ++ (b12 ++ (b13 ++ b14))))))))))))) ∧ Enc W0 .int [v0] b0 ∧ Enc W0 .num [v1] b1 ∧ Enc W0 .int [v2] b2 ∧ Enc W0 .bool [v3] b3 ∧ Enc W0 (.list sPair) [v4] b4 ∧ Enc W0 (.list .num) [v5] b5 ∧ Enc W0 .int [v6] b6 ∧ Enc W0 .int [v7] b7 ∧ Enc W0 (.list sTable) [v8] b8 ∧ Enc W0 (.list sIndex) [v9] b9 ∧ Enc W0 .int [v10] b10 ∧ Enc W0 .int [v11] b11 ∧ Enc W0 (.list sOwner) [v12] b12 ∧ Enc W0 .int [v13] b13 ∧ Enc W0 .data [v14] b14 := by
  unfold sReply at h
  obtain ⟨c0, r0, p0, q0, rfl, rfl, f0, h⟩ := h
  obtain ⟨v0, rfl⟩ := one_of f0 rfl
  have e0 := f0
  obtain ⟨c1, r1, p1, q1, rfl, rfl, f1, h⟩ := h
  obtain ⟨v1, rfl⟩ := one_of f1 rfl
  have e1 := f1
  obtain ⟨c2, r2, p2, q2, rfl, rfl, f2, h⟩ := h
  obtain ⟨v2, rfl⟩ := one_of f2 rfl
  have e2 := f2
  obtain ⟨c3, r3, p3, q3, rfl, rfl, f3, h⟩ := h
  obtain ⟨v3, rfl⟩ := one_of f3 rfl
  have e3 := f3
  obtain ⟨c4, r4, p4, q4, rfl, rfl, f4, h⟩ := h
  obtain ⟨v4, rfl⟩ := one_of f4 rfl
  have e4 := f4
  obtain ⟨c5, r5, p5, q5, rfl, rfl, f5, h⟩ := h
  obtain ⟨v5, rfl⟩ := one_of f5 rfl
  have e5 := f5
  obtain ⟨c6, r6, p6, q6, rfl, rfl, f6, h⟩ := h
  obtain ⟨v6, v7, v8, v9, b6, b7, b8, b9, rfl, rfl, e6, e7, e8, e9⟩ := Catalog_cells f6
  obtain ⟨c7, r7, p7, q7, rfl, rfl, f7, h⟩ := h
  obtain ⟨v10, v11, v12, v13, v14, b10, b11, b12, b13, b14, rfl, rfl, e10, e11, e12, e13, e14⟩ := Routes_cells f7
  obtain ⟨rfl, rfl⟩ := h
  exact ⟨v0, v1, v2, v3, v4, v5, v6, v7, v8, v9, v10, v11, v12, v13, v14, p0, p1, p2, p3, p4, p5, b6, b7, b8, b9, b10, b11, b12, b13, b14, rfl, by simp [List.append_assoc], e0, e1, e2, e3, e4, e5, e6, e7, e8, e9, e10, e11, e12, e13, e14⟩
theorem Set_cells {W0 : World} {cs : List Value} {bs : List UInt8} (h : Enc W0 sSet cs bs) : ∃ (v0 v1 v2 v3 : Value) (b0 b1 b2 b3 : List UInt8), cs = [v0, v1, v2, v3] ∧ bs = b0 ++ (b1 ++ (b2 ++ b3)) ∧ Enc W0 .int [v0] b0 ∧ Enc W0 .int [v1] b1 ∧ Enc W0 .int [v2] b2 ∧ Enc W0 .name [v3] b3 := by
  unfold sSet at h
  obtain ⟨c0, r0, p0, q0, rfl, rfl, f0, h⟩ := h
  obtain ⟨v0, rfl⟩ := one_of f0 rfl
  have e0 := f0
  obtain ⟨c1, r1, p1, q1, rfl, rfl, f1, h⟩ := h
  obtain ⟨v1, v2, v3, b1, b2, b3, rfl, rfl, e1, e2, e3⟩ := Value_cells f1
  obtain ⟨rfl, rfl⟩ := h
  exact ⟨v0, v1, v2, v3, p0, b1, b2, b3, rfl, by simp [List.append_assoc], e0, e1, e2, e3⟩
theorem Op_cells {W0 : World} {cs : List Value} {bs : List UInt8} (h : Enc W0 sOp cs bs) : ∃ (v0 v1 v2 v3 v4 v5 v6 v7 v8 v9 v10 : Value) (b0 b1 b2 b3 b4 b5 b6 b7 b8 b9 b10 : List UInt8), cs = [v0, v1, v2, v3, v4, v5, v6, v7, v8, v9, v10] ∧ bs = b0 ++ (b1 ++ (b2 ++ (b3 ++ (b4 ++ (b5 ++ (b6 ++ (b7 ++ (b8 ++ (b9 ++ b10))))))))) ∧ Enc W0 .int [v0] b0 ∧ Enc W0 .name [v1] b1 ∧ Enc W0 .name [v2] b2 ∧ Enc W0 (.list sValue) [v3] b3 ∧ Enc W0 (.list sValue) [v4] b4 ∧ Enc W0 (.list sSet) [v5] b5 ∧ Enc W0 (.list sValue) [v6] b6 ∧ Enc W0 (.list sValue) [v7] b7 ∧ Enc W0 .int [v8] b8 ∧ Enc W0 .bool [v9] b9 ∧ Enc W0 (.list .data) [v10] b10 := by
  unfold sOp at h
  obtain ⟨c0, r0, p0, q0, rfl, rfl, f0, h⟩ := h
  obtain ⟨v0, rfl⟩ := one_of f0 rfl
  have e0 := f0
  obtain ⟨c1, r1, p1, q1, rfl, rfl, f1, h⟩ := h
  obtain ⟨v1, rfl⟩ := one_of f1 rfl
  have e1 := f1
  obtain ⟨c2, r2, p2, q2, rfl, rfl, f2, h⟩ := h
  obtain ⟨v2, rfl⟩ := one_of f2 rfl
  have e2 := f2
  obtain ⟨c3, r3, p3, q3, rfl, rfl, f3, h⟩ := h
  obtain ⟨v3, rfl⟩ := one_of f3 rfl
  have e3 := f3
  obtain ⟨c4, r4, p4, q4, rfl, rfl, f4, h⟩ := h
  obtain ⟨v4, rfl⟩ := one_of f4 rfl
  have e4 := f4
  obtain ⟨c5, r5, p5, q5, rfl, rfl, f5, h⟩ := h
  obtain ⟨v5, rfl⟩ := one_of f5 rfl
  have e5 := f5
  obtain ⟨c6, r6, p6, q6, rfl, rfl, f6, h⟩ := h
  obtain ⟨v6, rfl⟩ := one_of f6 rfl
  have e6 := f6
  obtain ⟨c7, r7, p7, q7, rfl, rfl, f7, h⟩ := h
  obtain ⟨v7, rfl⟩ := one_of f7 rfl
  have e7 := f7
  obtain ⟨c8, r8, p8, q8, rfl, rfl, f8, h⟩ := h
  obtain ⟨v8, rfl⟩ := one_of f8 rfl
  have e8 := f8
  obtain ⟨c9, r9, p9, q9, rfl, rfl, f9, h⟩ := h
  obtain ⟨v9, rfl⟩ := one_of f9 rfl
  have e9 := f9
  obtain ⟨c10, r10, p10, q10, rfl, rfl, f10, h⟩ := h
  obtain ⟨v10, rfl⟩ := one_of f10 rfl
  have e10 := f10
  obtain ⟨rfl, rfl⟩ := h
  exact ⟨v0, v1, v2, v3, v4, v5, v6, v7, v8, v9, v10, p0, p1, p2, p3, p4, p5, p6, p7, p8, p9, p10, rfl, by simp [List.append_assoc], e0, e1, e2, e3, e4, e5, e6, e7, e8, e9, e10⟩
theorem Ask_cells {W0 : World} {cs : List Value} {bs : List UInt8} (h : Enc W0 sAsk cs bs) : ∃ (v0 v1 v2 v3 v4 v5 v6 v7 v8 v9 v10 v11 v12 v13 v14 v15 : Value) (b0 b1 b2 b3 b4 b5 b6 b7 b8 b9 b10 b11 b12 b13 b14 b15 : List UInt8), cs = [v0, v1, v2, v3, v4, v5, v6, v7, v8, v9, v10, v11, v12, v13, v14, v15] ∧ bs = b0 ++ (b1 ++ (b2 ++ (b3 ++ (b4 ++ (b5 ++ (b6 ++ (b7 ++ (b8 ++ (b9 ++ (b10 ++ (b11 ++ (b12 ++ (b13 ++ (b14 ++ b15)))))))))))))) ∧ Enc W0 .int [v0] b0 ∧ Enc W0 (.list sOp) [v1] b1 ∧ Enc W0 .int [v2] b2 ∧ Enc W0 .name [v3] b3 ∧ Enc W0 (.list sColumn) [v4] b4 ∧ Enc W0 (.list .int) [v5] b5 ∧ Enc W0 .int [v6] b6 ∧ Enc W0 .int [v7] b7 ∧ Enc W0 .name [v8] b8 ∧ Enc W0 (.list .int) [v9] b9 ∧ Enc W0 .bool [v10] b10 ∧ Enc W0 .int [v11] b11 ∧ Enc W0 .bool [v12] b12 ∧ Enc W0 .name [v13] b13 ∧ Enc W0 .int [v14] b14 ∧ Enc W0 .data [v15] b15 := by
  unfold sAsk at h
  obtain ⟨c0, r0, p0, q0, rfl, rfl, f0, h⟩ := h
  obtain ⟨v0, rfl⟩ := one_of f0 rfl
  have e0 := f0
  obtain ⟨c1, r1, p1, q1, rfl, rfl, f1, h⟩ := h
  obtain ⟨v1, rfl⟩ := one_of f1 rfl
  have e1 := f1
  obtain ⟨c2, r2, p2, q2, rfl, rfl, f2, h⟩ := h
  obtain ⟨v2, v3, v4, v5, b2, b3, b4, b5, rfl, rfl, e2, e3, e4, e5⟩ := Table_cells f2
  obtain ⟨c3, r3, p3, q3, rfl, rfl, f3, h⟩ := h
  obtain ⟨v6, v7, v8, v9, v10, v11, v12, b6, b7, b8, b9, b10, b11, b12, rfl, rfl, e6, e7, e8, e9, e10, e11, e12⟩ := Index_cells f3
  obtain ⟨c4, r4, p4, q4, rfl, rfl, f4, h⟩ := h
  obtain ⟨v13, rfl⟩ := one_of f4 rfl
  have e13 := f4
  obtain ⟨c5, r5, p5, q5, rfl, rfl, f5, h⟩ := h
  obtain ⟨v14, rfl⟩ := one_of f5 rfl
  have e14 := f5
  obtain ⟨c6, r6, p6, q6, rfl, rfl, f6, h⟩ := h
  obtain ⟨v15, rfl⟩ := one_of f6 rfl
  have e15 := f6
  obtain ⟨rfl, rfl⟩ := h
  exact ⟨v0, v1, v2, v3, v4, v5, v6, v7, v8, v9, v10, v11, v12, v13, v14, v15, p0, p1, b2, b3, b4, b5, b6, b7, b8, b9, b10, b11, b12, p4, p5, p6, rfl, by simp [List.append_assoc], e0, e1, e2, e3, e4, e5, e6, e7, e8, e9, e10, e11, e12, e13, e14, e15⟩
theorem Call_cells {W0 : World} {cs : List Value} {bs : List UInt8} (h : Enc W0 sCall cs bs) : ∃ (v0 v1 v2 : Value) (b0 b1 b2 : List UInt8), cs = [v0, v1, v2] ∧ bs = b0 ++ (b1 ++ b2) ∧ Enc W0 .num [v0] b0 ∧ Enc W0 .num [v1] b1 ∧ Enc W0 .data [v2] b2 := by
  unfold sCall at h
  obtain ⟨c0, r0, p0, q0, rfl, rfl, f0, h⟩ := h
  obtain ⟨v0, rfl⟩ := one_of f0 rfl
  have e0 := f0
  obtain ⟨c1, r1, p1, q1, rfl, rfl, f1, h⟩ := h
  obtain ⟨v1, rfl⟩ := one_of f1 rfl
  have e1 := f1
  obtain ⟨c2, r2, p2, q2, rfl, rfl, f2, h⟩ := h
  obtain ⟨v2, rfl⟩ := one_of f2 rfl
  have e2 := f2
  obtain ⟨rfl, rfl⟩ := h
  exact ⟨v0, v1, v2, p0, p1, p2, rfl, by simp [List.append_assoc], e0, e1, e2⟩

end Go.Proofs.Ytiblambiebojmaa

set_option linter.unusedVariables false
set_option linter.unusedSimpArgs false
set_option maxRecDepth 100000
namespace Go.Proofs.Ytiblambiebojmaa
open Go.RowKit Go.Deep

theorem exec_load {P : Program} {ρ : Operand → Value} {o : Oper} {t : TypeId} {x : Operand} {v : Value} {W : World} (ho : o.op = .load t x) (h : (Instr.loadAt t (ρ x)).run P W = .ok v W) : (execOp ρ o).run P W = .ok (.value v) W := by
  unfold execOp
  simp only [ho, Sem.run_bind, h, Result.andThen_ok]
  rfl
theorem cells_load {V : World} {B : Nat} {cs : List Value} {t : TypeId} {d : TypeDesc} (hc : ∀ (i : Nat) u, cs[i]? = some u → V.cell? ⟨B, i, none⟩ = some u) (hu : Try.prog.underlying t = some d) (hd : d.isRow = true) (hi : (Try.prog.info? t).map (·.size) = some cs.length) :
    (Instr.loadAt t (.pointer (some ⟨B, 0, none⟩))).run Try.prog V = .ok (.agg cs.toArray) V :=
  run_loadAt_mid V B 0 t cs d (fun j v hv => by rw [Nat.zero_add]; exact hc j v hv) hu hd hi
end Go.Proofs.Ytiblambiebojmaa

set_option linter.unusedVariables false
set_option linter.unusedSimpArgs false
set_option maxRecDepth 100000
namespace Go.Proofs.Ytiblambiebojmaa
open Go.RowKit Go.Deep

set_option maxHeartbeats 8000000 in
theorem wValue_any {W0 w : World} {KK : List (Nat × Obj)} {a : Nat} {l : List UInt8} {v0 v1 v2 : Value} {b0 b1 b2 : List UInt8} (h : St 69 W0 KK a w l) (e0 : Enc W0 .int [v0] b0) (e1 : Enc W0 .int [v1] b1) (e2 : Enc W0 .name [v2] b2) (hl : l.length + (b0 ++ (b1 ++ b2)).length ≤ 1000000000000) :
    Calls Try.prog 95 #[.pointer (some ⟨a, 0, none⟩), .agg #[v0, v1, v2]] w (Wrote 69 W0 KK a l (b0 ++ (b1 ++ b2))) := by
  have H0 := hid (h.box #[v0, v1, v2] 131)
  have HL0 := hid hl
  have E0 := hid e0
  have E1 := hid e1
  have E2 := hid e2
  clear h hl e0 e1 e2
  go_enter Try.func95, Try.ntmps95
  go_upto_region 1 with fail
  generalize w.alloc (.cells #[v0, v1, v2] 131) = w0 at *
  generalize w.heap.size = B at *
  have x0 := box_cell H0.out 0 v0 rfl
  have HN0 := hid (len_now HL0.out)
  have HL1 := hid (len_step HL0.out)
  go_upto_region 2 with (first | (go_at_call 52; refine (wwholeE H0.out E0.out HN0.out).mono ?_; rintro en w1 ⟨rfl, h1⟩; have H1 := hid h1; clear h1))
  clear x0
  have x1 := box_cell H1.out 1 v1 rfl
  have HN1 := hid (len_now HL1.out)
  have HL2 := hid (len_step HL1.out)
  go_upto_region 3 with (first | (go_at_call 88; refine (wsignedE H1.out E1.out HN1.out).mono ?_; rintro en w2 ⟨rfl, h2⟩; have H2 := hid h2; clear h2))
  clear x1
  have x2 := box_cell H2.out 2 v2 rfl
  go_wp2_with (first | (go_at_call 63; refine (wnameE H2.out E2.out HL2.out).mono ?_; rintro en w3 ⟨rfl, h3⟩; have H3 := hid h3; clear h3))
  clear x2
  go_end0
  exact ⟨rfl, by simpa only [List.append_assoc] using H3.out.drop⟩

set_option maxHeartbeats 8000000 in
theorem wColumn_any {W0 w : World} {KK : List (Nat × Obj)} {a : Nat} {l : List UInt8} {v0 v1 v2 : Value} {b0 b1 b2 : List UInt8} (h : St 69 W0 KK a w l) (e0 : Enc W0 .name [v0] b0) (e1 : Enc W0 .int [v1] b1) (e2 : Enc W0 .bool [v2] b2) (hl : l.length + (b0 ++ (b1 ++ b2)).length ≤ 1000000000000) :
    Calls Try.prog 90 #[.pointer (some ⟨a, 0, none⟩), .agg #[v0, v1, v2]] w (Wrote 69 W0 KK a l (b0 ++ (b1 ++ b2))) := by
  have H0 := hid (h.box #[v0, v1, v2] 120)
  have HL0 := hid hl
  have E0 := hid e0
  have E1 := hid e1
  have E2 := hid e2
  clear h hl e0 e1 e2
  go_enter Try.func90, Try.ntmps90
  go_upto_region 1 with fail
  generalize w.alloc (.cells #[v0, v1, v2] 120) = w0 at *
  generalize w.heap.size = B at *
  have x0 := box_cell H0.out 0 v0 rfl
  have HN0 := hid (len_now HL0.out)
  have HL1 := hid (len_step HL0.out)
  go_upto_region 2 with (first | (go_at_call 63; refine (wnameE H0.out E0.out HN0.out).mono ?_; rintro en w1 ⟨rfl, h1⟩; have H1 := hid h1; clear h1))
  clear x0
  have x1 := box_cell H1.out 1 v1 rfl
  have HN1 := hid (len_now HL1.out)
  have HL2 := hid (len_step HL1.out)
  go_upto_region 3 with (first | (go_at_call 52; refine (wwholeE H1.out E1.out HN1.out).mono ?_; rintro en w2 ⟨rfl, h2⟩; have H2 := hid h2; clear h2))
  clear x1
  have x2 := box_cell H2.out 2 v2 rfl
  go_wp2_with (first | (go_at_call 53; refine (wflagE H2.out E2.out HL2.out).mono ?_; rintro en w3 ⟨rfl, h3⟩; have H3 := hid h3; clear h3))
  clear x2
  go_end0
  exact ⟨rfl, by simpa only [List.append_assoc] using H3.out.drop⟩

set_option maxHeartbeats 4000000 in
theorem wlist_Column {W0 w : World} {KK : List (Nat × Obj)} {a : Nat} {l : List UInt8} {v : Value} {b : List UInt8} (h : St 69 W0 KK a w l) (e : Enc W0 (.list sColumn) [v] b) (hl : l.length + b.length ≤ 1000000000000) :
    Calls Try.prog 89 #[.pointer (some ⟨a, 0, none⟩), v, (.func (.func 90) #[.pointer (some ⟨a, 0, none⟩)] #[])] w (Wrote 69 W0 KK a l b) := by
  obtain ⟨ao, n, c, M, rfl, hL, rfl⟩ := list_open e
  obtain ⟨hcap, hn6, hn64, hw⟩ := hL.cap
  have HLst := hid hL
  have HL := hid hl
  have C0 := hid (wnum_any h n hn64 (by have := HL.out; simp only [List.length_append] at this ⊢; omega))
  clear h e hl hL hn64
  go_enter Try.func89, Try.ntmps89
  go_wp2_with (first | (go_at_call 48; refine C0.out.mono ?_; rintro en w1 ⟨rfl, h1⟩; have H1 := hid h1; clear h1))
  clear hw C0
  go_loopw [15] (fun i wr => ∃ k, k ≤ n ∧ i = .int .i64 (k : Int) ∧ St 69 W0 KK a wr ((l ++ numL n) ++ takeB M k)) (fun i _ => n - (intOf i).toNat)
  case atStart => exact ⟨0, by omega, rfl, by rw [takeB_zero, List.append_nil]; exact H1.out⟩
  case round =>
    obtain ⟨k, hk, rfl, hst⟩ := hrel
    have HS := hid hst
    clear hst
    by_cases hlt : k < n
    · obtain ⟨⟨mc, mb⟩, bk, off, hm, rfl, hcell, htk, hle⟩ := HLst.out.get (by decide) hlt
      simp only at hm hcell htk hle
      obtain ⟨v0, v1, v2, b0, b1, b2, rfl, rfl, e0, e1, e2⟩ := Column_cells hm
      obtain ⟨y0, rfl⟩ := form_name e0
      obtain ⟨y1, rfl⟩ := form_int e1
      obtain ⟨y2, rfl⟩ := form_bool e2
      have d0 : wr.cell? ⟨bk, off + k * 3, none⟩ = some (.string y0) := hcell _ HS.out.below 0 _ rfl
      have d1 : wr.cell? ⟨bk, off + k * 3 + 1, none⟩ = some (.int .i64 y1) := hcell _ HS.out.below 1 _ rfl
      have d2 : wr.cell? ⟨bk, off + k * 3 + 2, none⟩ = some (.bool y2) := hcell _ HS.out.below 2 _ rfl
      have HB := hid (HS.out.box #[(.string y0), (.int .i64 y1), (.bool y2)] 120)
      have HX := hid hle
      have C := hid (wColumn_any HB.out e0 e1 e2 (by have := HL.out; have := HX.out; simp only [List.length_append] at *; omega))
      have HT := hid htk
      clear htk hle hcell hm e0 e1 e2
      have hki : (k : Int) < (n : Int) := by omega
      go_wp2_with (first | (go_at_call 90; refine C.out.mono ?_; rintro en w2 ⟨rfl, h2⟩; have H2 := hid h2.drop; clear h2))
      go_roundw
      case rel => exact ⟨k + 1, by omega, by go_num, by rw [HT.out, ← List.append_assoc]; exact H2.out⟩
      case measure => simp [intOf]; omega
    · obtain rfl : k = n := by omega
      have hki : ¬ (k : Int) < (k : Int) := by omega
      go_wp2_with fail
      go_end0
      exact ⟨rfl, by rw [← List.append_assoc]; exact HS.out⟩

set_option maxHeartbeats 4000000 in
theorem wlist_int {W0 w : World} {KK : List (Nat × Obj)} {a : Nat} {l : List UInt8} {v : Value} {b : List UInt8} (h : St 69 W0 KK a w l) (e : Enc W0 (.list .int) [v] b) (hl : l.length + b.length ≤ 1000000000000) :
    Calls Try.prog 91 #[.pointer (some ⟨a, 0, none⟩), v, (.func (.func 52) #[.pointer (some ⟨a, 0, none⟩)] #[])] w (Wrote 69 W0 KK a l b) := by
  obtain ⟨ao, n, c, M, rfl, hL, rfl⟩ := list_open e
  obtain ⟨hcap, hn6, hn64, hw⟩ := hL.cap
  have HLst := hid hL
  have HL := hid hl
  have C0 := hid (wnum_any h n hn64 (by have := HL.out; simp only [List.length_append] at this ⊢; omega))
  clear h e hl hL hn64
  go_enter Try.func91, Try.ntmps91
  go_wp2_with (first | (go_at_call 48; refine C0.out.mono ?_; rintro en w1 ⟨rfl, h1⟩; have H1 := hid h1; clear h1))
  clear hw C0
  go_loopw [15] (fun i wr => ∃ k, k ≤ n ∧ i = .int .i64 (k : Int) ∧ St 69 W0 KK a wr ((l ++ numL n) ++ takeB M k)) (fun i _ => n - (intOf i).toNat)
  case atStart => exact ⟨0, by omega, rfl, by rw [takeB_zero, List.append_nil]; exact H1.out⟩
  case round =>
    obtain ⟨k, hk, rfl, hst⟩ := hrel
    have HS := hid hst
    clear hst
    by_cases hlt : k < n
    · obtain ⟨⟨mc, mb⟩, bk, off, hm, rfl, hcell, htk, hle⟩ := HLst.out.get (by decide) hlt
      simp only at hm hcell htk hle
      obtain ⟨v0, rfl⟩ := one_of hm rfl
      have d0 : wr.cell? ⟨bk, off + k, none⟩ = some v0 := by have := hcell _ HS.out.below 0 v0 rfl; rw [show Sh.wid .int = 1 from rfl, Nat.mul_one] at this; exact this
      have HX := hid hle
      have C := hid (wwholeE HS.out hm (by have := HL.out; have := HX.out; simp only [List.length_append] at *; omega))
      have HT := hid htk
      clear htk hle hcell hm
      have hki : (k : Int) < (n : Int) := by omega
      go_wp2_with (first | (go_at_call 52; refine C.out.mono ?_; rintro en w2 ⟨rfl, h2⟩; have H2 := hid h2; clear h2))
      go_roundw
      case rel => exact ⟨k + 1, by omega, by go_num, by rw [HT.out, ← List.append_assoc]; exact H2.out⟩
      case measure => simp [intOf]; omega
    · obtain rfl : k = n := by omega
      have hki : ¬ (k : Int) < (k : Int) := by omega
      go_wp2_with fail
      go_end0
      exact ⟨rfl, by rw [← List.append_assoc]; exact HS.out⟩

set_option maxHeartbeats 8000000 in
theorem wTable_any {W0 w : World} {KK : List (Nat × Obj)} {a : Nat} {l : List UInt8} {v0 v1 v2 v3 : Value} {b0 b1 b2 b3 : List UInt8} (h : St 69 W0 KK a w l) (e0 : Enc W0 .int [v0] b0) (e1 : Enc W0 .name [v1] b1) (e2 : Enc W0 (.list sColumn) [v2] b2) (e3 : Enc W0 (.list .int) [v3] b3) (hl : l.length + (b0 ++ (b1 ++ (b2 ++ b3))).length ≤ 1000000000000) :
    Calls Try.prog 61 #[.pointer (some ⟨a, 0, none⟩), .agg #[v0, v1, v2, v3]] w (Wrote 69 W0 KK a l (b0 ++ (b1 ++ (b2 ++ b3)))) := by
  have H0 := hid (h.box #[v0, v1, v2, v3] 34)
  have HL0 := hid hl
  have E0 := hid e0
  have E1 := hid e1
  have E2 := hid e2
  have E3 := hid e3
  clear h hl e0 e1 e2 e3
  go_enter Try.func61, Try.ntmps61
  go_upto_region 1 with fail
  generalize w.alloc (.cells #[v0, v1, v2, v3] 34) = w0 at *
  generalize w.heap.size = B at *
  have x0 := box_cell H0.out 0 v0 rfl
  have HN0 := hid (len_now HL0.out)
  have HL1 := hid (len_step HL0.out)
  go_upto_region 2 with (first | (go_at_call 52; refine (wwholeE H0.out E0.out HN0.out).mono ?_; rintro en w1 ⟨rfl, h1⟩; have H1 := hid h1; clear h1))
  clear x0
  have x1 := box_cell H1.out 1 v1 rfl
  have HN1 := hid (len_now HL1.out)
  have HL2 := hid (len_step HL1.out)
  go_upto_region 3 with (first | (go_at_call 63; refine (wnameE H1.out E1.out HN1.out).mono ?_; rintro en w2 ⟨rfl, h2⟩; have H2 := hid h2; clear h2))
  clear x1
  have x2 := box_cell H2.out 2 v2 rfl
  have HN2 := hid (len_now HL2.out)
  have HL3 := hid (len_step HL2.out)
  go_upto_region 4 with (first | (go_at_call 89; refine (wlist_Column H2.out E2.out HN2.out).mono ?_; rintro en w3 ⟨rfl, h3⟩; have H3 := hid h3; clear h3))
  clear x2
  have x3 := box_cell H3.out 3 v3 rfl
  go_wp2_with (first | (go_at_call 91; refine (wlist_int H3.out E3.out HL3.out).mono ?_; rintro en w4 ⟨rfl, h4⟩; have H4 := hid h4; clear h4))
  clear x3
  go_end0
  exact ⟨rfl, by simpa only [List.append_assoc] using H4.out.drop⟩

end Go.Proofs.Ytiblambiebojmaa

