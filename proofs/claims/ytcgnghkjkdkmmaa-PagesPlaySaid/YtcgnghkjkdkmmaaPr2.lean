/-
  PAIRS: the helpers Find, Cut, Part.
-/
import Derived.Test.YtcgnghkjkdkmmaaPr
import Derived.Deep.RegionWith
set_option linter.unusedVariables false
namespace Go.Proofs.Ytcgnghkjkdkmmaa
open Go.RowKit

theorem info_pair : (Try.prog.info? 31).map (fun i => (i.zero, i.size, i.bytes)) = some (some (.agg #[.slice none 0 0, .slice none 0 0, .int .i64 0]), 3, 56) := by kernel_rfl

theorem results_cell2 {P : Program} {fn : Func} {p u : Tmp} {ty : TypeId} (h : fn.results = #[.cell p ty, .tmp u]) (tmps : Array Value) (w : World) (g : Nat) (t : TypeId) (cs : Array Value) (fr : Nat × Nat) (d : TypeDesc)
    (hp : tmps.getD p undef = .pointer (some ⟨g, 0, none⟩)) (hg : w.heap[g]? = some (.cells cs t fr))
    (hu : P.underlying ty = some d) (hd : (match d with | .struct _ | .array _ _ => true | _ => false) = true) (hi : (P.info? ty).map (·.size) = some cs.size) :
    (results fn tmps).run P w = .ok (.tuple #[.agg cs, tmps.getD u undef]) w := by
  have hp' : tmps[p]?.getD undef = .pointer (some ⟨g, 0, none⟩) := by simpa using hp
  simp [results, h, hp', asAddr, run_loadVar_row w g t ty cs fr d hg hu hd hi]

/-- What Find tells. -/
def findR (M : List Lp) (key : List UInt8) : Value := match M.find? (fun m => m.key == key) with
  | some m => .tuple #[pv m, .bool true]
  | none => .tuple #[.agg #[.slice none 0 0, .slice none 0 0, .int .i64 0], .bool false]

theorem find_at {M : List Lp} {key : List UInt8} {k : Nat} {m : Lp} (h : ∀ (j : Nat) (u : Lp), j < k → M[j]? = some u → (u.key == key) = false) (hm : M[k]? = some m) (hk : (m.key == key) = true) : M.find? (fun m => m.key == key) = some m := by
  obtain ⟨hl, he⟩ := List.getElem?_eq_some_iff.1 hm
  have e : M = M.take k ++ m :: M.drop (k + 1) := by rw [← he, ← List.drop_eq_getElem_cons hl, List.take_append_drop]
  rw [e, List.find?_append]
  have h1 : (M.take k).find? (fun m => m.key == key) = none := by
    rw [List.find?_eq_none]
    intro x hx
    obtain ⟨j, hj, rfl⟩ := List.mem_iff_getElem.1 hx
    rw [List.length_take] at hj
    have := h j _ (by omega) (List.getElem?_eq_getElem (by omega))
    rw [List.getElem_take]
    simp [this]
  rw [h1]
  simp [hk]

theorem find_none {M : List Lp} {key : List UInt8} (h : ∀ (j : Nat) (u : Lp), M[j]? = some u → (u.key == key) = false) : M.find? (fun m => m.key == key) = none := by
  rw [List.find?_eq_none]
  intro x hx
  obtain ⟨j, hj, rfl⟩ := List.mem_iff_getElem.1 hx
  simp [h j _ (List.getElem?_eq_getElem hj)]

set_option maxHeartbeats 4000000 in
set_option maxRecDepth 100000 in
theorem find_any (x y : Value) (M : List Lp) (key : List UInt8) (w : World) (hx : Prs w x M) (hy : Rd w y key) :
    Calls Try.prog 11 #[x, y] w (AnsP w (findR M key)) := by
  obtain ⟨ao, c, rfl, hm⟩ := hx.form
  unfold maxLen at hm
  have B1 := (Below.refl w.heap.size w).alloc (Nat.le_refl _) (.cells #[.slice none 0 0, .slice none 0 0, .int .i64 0] 31)
  have HX := hid (hx.old B1)
  have HY := hid (hy.old B1)
  clear hx hy B1
  go_enter Try.func11, Try.ntmps11
  go_wp2_with fail
  go_loop [6] (fun i => ∃ k : Nat, k ≤ M.length ∧ i = .int .i64 k ∧ ∀ j u, j < k → M[j]? = some u → (u.key == key) = false) (fun i => M.length - (intOf i).toNat)
  case atStart => exact ⟨0, by omega, rfl, fun j u h => by omega⟩
  case round =>
    obtain ⟨k, hk, rfl, hno⟩ := hrel
    have HN := hid hno
    clear hno
    by_cases hlt : k < M.length
    · have hv := List.getElem?_eq_getElem hlt
      generalize M[k] = m at *
      have HV := hid hv
      obtain ⟨b, off, rfl, d1, d2, d3⟩ := HX.out.get hv
      have hrd := HX.out.at hv
      have C := pbytes_any _ _ _ _ _ hrd.1 HY.out
      have o1 := one_rd hrd.1
      have o2 := one_rd hrd.2
      clear hv hrd
      cases h : m.key == key with
      | true =>
        rw [h] at C
        have HF := hid (find_at HN.out HV.out h)
        go_wp2_with (first | (go_at_call 26; refine C.mono ?_; rintro e w' ⟨rfl, rfl⟩))
        (try simp only [Exit.inBlock, Exit.then])
        refine bodyPost_ret (results_cell2 rfl _ _ w.heap.size 31 _ (0, 0) _ rfl (heap_alloc_new _ _) Try.underlying31 rfl (by kernel_rfl)) rfl ?_
        unfold AnsP findR
        rw [HF.out]
        exact ⟨rfl, (Below.refl w.heap.size w).alloc (Nat.le_refl _) _⟩
      | false =>
        rw [h] at C
        go_wp2_with (first | (go_at_call 26; refine C.mono ?_; rintro e w' ⟨rfl, rfl⟩))
        go_round
        case rel =>
          refine ⟨k + 1, by omega, by go_num, fun j u hj hu => ?_⟩
          by_cases hjk : j < k
          · exact HN.out j u hjk hu
          · obtain rfl : j = k := by omega
            rw [HV.out] at hu
            cases hu
            exact h
        case measure => simp [intOf]; omega
    · have HF := hid (find_none (M := M) (key := key) (fun j u hu => HN.out j u (by have := (List.getElem?_eq_some_iff.1 hu).1; omega) hu))
      go_wp2_with fail
      (try simp only [Exit.inBlock, Exit.then])
      refine bodyPost_ret (results_cell2 rfl _ _ w.heap.size 31 _ (0, 0) _ rfl (heap_alloc_new _ _) Try.underlying31 rfl (by kernel_rfl)) rfl ?_
      unfold AnsP findR
      rw [HF.out]
      exact ⟨rfl, (Below.refl w.heap.size w).alloc (Nat.le_refl _) _⟩

/-- What a call that makes a list of its own, out of pairs that are there, gives. -/
def MadeP (w : World) (M : List Lp) (e : Ending) (w' : World) : Prop :=
  ∃ x, e = .returned x ∧ w'.ownsRow w.heap.size 31 3 x M.length (M.map rowP).flatten ∧ Below w.heap.size w w'

theorem pstep {w wr w1 : World} {base : Nat} {acc : List Lp} {x x' : Value} {o : Obj} {m : Lp} (hbb : Below base w wr) (hb : base ≤ w.heap.size) (hown : wr.ownsRow base 31 3 x acc.length (acc.map rowP).flatten)
    (hown' : w1.ownsRow base 31 3 x' (acc.length + [rowP m].length) ((acc.map rowP).flatten ++ [rowP m].flatten)) (hg : (wr.alloc o).grownBy w1 x.ownBlock) :
    Hid (w1.ownsRow base 31 3 x' (acc ++ [m]).length ((acc ++ [m]).map rowP).flatten) ∧ Hid (Below base w w1) := by
  refine ⟨?_, hbb.trans (((Below.refl base wr).alloc (Nat.le_trans hb hbb.size) o).grown hg (by simp; have := hbb.size; omega) (fun k hk => (hown.lt k hk).1))⟩
  show World.ownsRow _ _ _ _ _ _ _
  rw [List.map_append, List.flatten_append, List.length_append]
  exact hown'

theorem filter_take {M : List Lp} {k : Nat} {m : Lp} (p : Lp → Bool) (h : M[k]? = some m) : (M.take (k + 1)).filter p = (M.take k).filter p ++ (if p m then [m] else []) := by
  rw [List.take_add_one, h]
  show (M.take k ++ [m]).filter p = _
  rw [List.filter_append]
  cases hp : p m <;> simp [hp]

set_option maxHeartbeats 4000000 in
set_option maxRecDepth 100000 in
theorem cut_any (x y : Value) (M : List Lp) (key : List UInt8) (w : World) (hx : Prs w x M) (hy : Rd w y key) (hl : M.length ≤ 100000) :
    Calls Try.prog 13 #[x, y] w (MadeP w (M.filter (fun m => !(m.key == key)))) := by
  obtain ⟨ao, c, rfl, hm⟩ := hx.form
  have HX := hid hx
  have HY := hid hy
  clear hx hy hm
  go_enter Try.func13, Try.ntmps13
  go_wp2_with fail
  go_loopw [5, 6] (fun z i wr => ∃ (k : Nat) (acc : List Lp), k ≤ M.length ∧ i = .int .i64 k ∧ acc.length ≤ k ∧ acc = (M.take k).filter (fun m => !(m.key == key)) ∧ wr.ownsRow w.heap.size 31 3 z acc.length (acc.map rowP).flatten ∧ Below w.heap.size w wr) (fun _ i _ => M.length - (intOf i).toNat)
  case atStart => exact ⟨0, [], by omega, rfl, by simp, by simp, World.ownsRow_nil _ _ _ _, Below.refl _ _⟩
  case round =>
    obtain ⟨k, acc, hk, rfl, hal, hacc, hown, hb⟩ := hrel
    have HB := hid hb
    have HA := hid hacc
    have HO := hid hown
    clear hb hacc hown
    by_cases hlt : k < M.length
    · have hv := List.getElem?_eq_getElem hlt
      generalize M[k] = m at *
      obtain ⟨b, off, rfl, d1, d2, d3⟩ := (HX.out.old HB.out).get hv
      have hrd := (HX.out.old HB.out).at hv
      have C := pbytes_any _ _ _ _ _ hrd.1 (HY.out.old HB.out)
      have o1 := one_rd hrd.1
      have o2 := one_rd hrd.2
      have HRD := hid hrd
      have HF := hid (filter_take (fun m => !(m.key == key)) hv)
      clear hv hrd
      cases h : m.key == key with
      | true =>
        rw [h] at C
        have HT : Hid ((M.take (k + 1)).filter (fun m => !(m.key == key)) = acc) := by show _ = _; rw [HF.out, HA.out, h]; simp
        go_wp2_with (first | (go_at_call 26; refine C.mono ?_; rintro e w' ⟨rfl, rfl⟩))
        go_roundw
        case rel => exact ⟨k + 1, acc, by omega, by go_num, by omega, HT.out.symm, HO.out, HB.out⟩
        case measure => simp [intOf]; omega
      | false =>
        rw [h] at C
        have HT : Hid ((M.take (k + 1)).filter (fun m => !(m.key == key)) = acc ++ [m]) := by show _ = _; rw [HF.out, HA.out, h]; simp
        have hao := hid (HO.out.alloc (.cells (rowP m).toArray 31))
        have hv1 : Hid (Rws 3 (wr.alloc (.cells (rowP m).toArray 31)) (.slice (some ⟨wr.heap.size, 0, none⟩) 1 1) [rowP m]) := Rws.one rfl HRD.out.wide
        go_wp2_with (first
          | (go_at_call 26; refine C.mono ?_; rintro e w' ⟨rfl, rfl⟩)
          | (at_builtin; refine wp_rapp rfl _ _ 29 rfl w.heap.size 3 56 31 Try.underlying29 _ info_pair (by decide) (by decide) _ _ _ rfl hao.out _ [rowP m] rfl hv1.out ?c1 ?c2 ?c3 ?_))
        case c1 => simp; omega
        case c2 => unfold maxLen; simp; omega
        case c3 => have := HB.out.size; simp; omega
        intro x4 w4 o4 g4
        obtain ⟨q1, q2⟩ := pstep HB.out (Nat.le_refl _) HO.out o4 g4
        clear o4 g4
        go_wp2_with fail
        go_roundw
        case rel => exact ⟨k + 1, acc ++ [m], by omega, by go_num, by simp; omega, HT.out.symm, q1.out, q2.out⟩
        case measure => simp [intOf]; omega
    · obtain rfl : k = M.length := by omega
      rw [List.take_length] at HA
      go_wp2_with fail
      go_ret
      have := HO.out
      rw [HA.out] at this
      exact ⟨_, rfl, this, HB.out⟩
end Go.Proofs.Ytcgnghkjkdkmmaa
