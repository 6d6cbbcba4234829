/-
  PAGES: New, all, Len, Sizes, Clone, Fork.
-/
import Derived.Test.YtcgnghkjkdkmmaaGh
set_option linter.unusedVariables false
namespace Go.Proofs.Ytcgnghkjkdkmmaa
open Go.RowKit Go.Shelf

/-- A map to read in, nil too. -/
def MapR (w : World) (p : Value) (G : List Pg) : Prop := (p = .pointer none ∧ G = []) ∨ ∃ base mb v, p = .pointer (some ⟨mb, 0, none⟩) ∧ Mp base w mb v G

theorem MapR.old {w w' : World} {p : Value} {G : List Pg} (h : MapR w p G) (hb : Below w.heap.size w w') : MapR w' p G := by
  rcases h with h | ⟨base, mb, v, rfl, h⟩
  · exact .inl h
  · exact .inr ⟨base, mb, v, rfl, h.old hb⟩

set_option maxHeartbeats 1000000 in
set_option maxRecDepth 100000 in
theorem all_any (p : Value) (G : List Pg) (w : World) (h : MapR w p G) : Calls Try.prog 31 #[p] w (fun e w' => ∃ ao c, e = .returned (.slice ao G.length c) ∧ Pgs w (.slice ao G.length c) G ∧ w' = w) := by
  rcases h with ⟨rfl, rfl⟩ | ⟨base, mb, v, rfl, hM⟩
  · go_enter Try.func31, Try.ntmps31
    go_wp2_with fail
    go_ret
    exact ⟨none, 0, rfl, Pgs.nil w, rfl⟩
  · obtain ⟨ao, c, rfl, -⟩ := hM.pgs.form
    have HP := hid hM.pgs
    have c0 : w.cell? ⟨mb, 0, none⟩ = some (.slice ao G.length c) := by simp [World.cell?, hM.hd]
    clear hM
    go_enter Try.func31, Try.ntmps31
    go_wp2_with fail
    go_ret
    exact ⟨ao, c, rfl, HP.out, rfl⟩

set_option maxHeartbeats 1000000 in
set_option maxRecDepth 100000 in
theorem new_any (base : Nat) (w : World) (hb : base ≤ w.heap.size) : Calls Try.prog 9 #[] w (fun e w' => e = .returned (.pointer (some ⟨w.heap.size, 0, none⟩)) ∧ Mp base w' w.heap.size (.slice none 0 0) [] ∧ Below w.heap.size w w') := by
  have HM : Hid (Mp base (w.alloc (.cells #[.slice none 0 0] 65)) w.heap.size (.slice none 0 0) []) := ⟨hb, heap_alloc_new _ _, World.ownsRow_nil _ _ _ _, (fun h => by cases h), (fun g hg => by cases hg), (fun g hg => by cases hg)⟩
  go_enter Try.func9, Try.ntmps9
  go_wp2_with fail
  go_ret
  exact ⟨rfl, HM.out, (Below.refl _ _).alloc (Nat.le_refl _) _⟩

/-- How many pairs the first k pages have; all. -/
def cnt (G : List Pg) (k : Nat) : Nat := ((mls G).take k).flatten.length
def total (G : List Pg) : Nat := (mls G).flatten.length
theorem cnt_all (G : List Pg) : cnt G G.length = total G := by unfold cnt total; rw [← mls_len, List.take_length]
theorem cnt_zero (G : List Pg) : cnt G 0 = 0 := rfl
theorem flat_take (G : List Pg) {k : Nat} {g : Pg} (h : G[k]? = some g) : cnt G (k + 1) = cnt G k + g.M.length := by
  unfold cnt; rw [take_at, mls_at h, List.length_append]
theorem flat_le (G : List Pg) (k : Nat) : cnt G k ≤ total G := by
  unfold cnt total
  conv => rhs; rw [← List.take_append_drop k (mls G)]
  rw [List.flatten_append, List.length_append]; omega

set_option maxHeartbeats 4000000 in
set_option maxRecDepth 100000 in
theorem len_any (p : Value) (G : List Pg) (w : World) (h : MapR w p G) (hl : total G ≤ 1000000) (hn : G.length ≤ 1000000) : Calls Try.prog 28 #[p] w (fun e w' => e = .returned (.int .i64 (total G : Int)) ∧ w' = w) := by
  have C := all_any p G w h
  have hp : ∃ q, p = .pointer q := by rcases h with ⟨rfl, _⟩ | ⟨_, _, _, rfl, _⟩ <;> exact ⟨_, rfl⟩
  obtain ⟨q, rfl⟩ := hp
  clear h
  go_enter Try.func28, Try.ntmps28
  go_wp2_with (first | (go_at_call 31; refine C.mono ?_))
  rintro e w1 ⟨ao, c, rfl, hp, rfl⟩
  have HP := hid hp
  clear hp
  go_wp2_with fail
  go_loop [3, 9] (fun s i => ∃ k : Nat, k ≤ G.length ∧ i = .int .i64 k ∧ s = .int .i64 (cnt G k : Int)) (fun _ i => G.length - (intOf i).toNat)
  case atStart => exact ⟨0, by omega, rfl, rfl⟩
  case round =>
    obtain ⟨k, hk, rfl, rfl⟩ := hrel
    by_cases hlt : k < G.length
    · have hv := List.getElem?_eq_getElem hlt
      generalize G[k] = g at *
      obtain ⟨b, off, rfl, d1⟩ := HP.out.get hv
      rw [Nat.mul_one] at d1
      have hs := flat_take G hv
      have hle := flat_le G (k + 1)
      have hw : IntKind.i64.wrap ((cnt G k : Int) + (g.M.length : Int)) = ((cnt G (k + 1) : Nat) : Int) := by rw [IntKind.wrap_i64]; omega
      have HT := hid hs
      clear hv hs
      go_wp2_with fail
      go_round
      case rel => exact ⟨k + 1, by omega, by go_num, rfl⟩
      case measure => simp [intOf]; omega
    · obtain rfl : k = G.length := by omega
      go_wp2_with fail
      go_ret
      exact ⟨by rw [← cnt_all]; rfl, rfl⟩

theorem info_int : (Try.prog.info? 3).map (fun i => (i.zero, i.size, i.bytes)) = some (some (.int .i64 0), 1, 8) := by kernel_rfl

def iv (n : Nat) : Value := .int .i64 (n : Int)

set_option maxHeartbeats 4000000 in
set_option maxRecDepth 100000 in
theorem sizes_any (p : Value) (G : List Pg) (w : World) (h : MapR w p G) (hn : G.length ≤ 1000000) : Calls Try.prog 29 #[p] w (fun e w' => ∃ x, e = .returned x ∧ w'.ownsRow w.heap.size 3 1 x G.length (G.map fun g => iv g.M.length) ∧ Below w.heap.size w w') := by
  have C := all_any p G w h
  have hp : ∃ q, p = .pointer q := by rcases h with ⟨rfl, _⟩ | ⟨_, _, _, rfl, _⟩ <;> exact ⟨_, rfl⟩
  obtain ⟨q, rfl⟩ := hp
  clear h
  go_enter Try.func29, Try.ntmps29
  go_wp2_with (first | (go_at_call 31; refine C.mono ?_))
  rintro e w1 ⟨ao, c, rfl, hp, rfl⟩
  have HP := hid hp
  clear hp
  go_wp2_with fail
  go_loopw [3, 9] (fun z i wr => ∃ k : Nat, k ≤ G.length ∧ i = .int .i64 k ∧ Hid (wr.ownsRow w1.heap.size 3 1 z k ((G.take k).map fun g => iv g.M.length)) ∧ Hid (Below w1.heap.size w1 wr)) (fun _ i _ => G.length - (intOf i).toNat)
  case atStart => exact ⟨0, by omega, rfl, World.ownsRow_nil _ _ _ _, Below.refl _ _⟩
  case round =>
    obtain ⟨k, hk, rfl, HO, HB⟩ := hrel
    by_cases hlt : k < G.length
    · have hv := List.getElem?_eq_getElem hlt
      generalize G[k] = g at *
      obtain ⟨b, off, rfl, d1⟩ := (HP.out.old HB.out).get hv
      rw [Nat.mul_one] at d1
      have HT : Hid ((G.take (k + 1)).map (fun g => iv g.M.length) = (G.take k).map (fun g => iv g.M.length) ++ [iv g.M.length]) := by
        show _ = _
        rw [List.take_add_one, hv]
        show ((G.take k) ++ [g]).map _ = _
        rw [List.map_append]; rfl
      have hao := hid (HO.out.alloc (.cells #[iv g.M.length] 3))
      have hv1 : Hid (Rws 1 (wr.alloc (.cells #[iv g.M.length] 3)) (.slice (some ⟨wr.heap.size, 0, none⟩) 1 1) [[iv g.M.length]]) := Rws.one rfl ⟨rfl, fun u hu => by simp at hu; subst hu; rfl⟩
      unfold iv at hao hv1
      clear hv
      go_wp2_with (first
        | (at_builtin; refine wp_rapp rfl _ _ 58 rfl w1.heap.size 1 8 3 Try.underlying58 _ info_int (by decide) (by decide) _ _ _ rfl hao.out _ [[.int .i64 (g.M.length : Int)]] rfl hv1.out ?c1 ?c2 ?c3 ?_))
      case c1 => simp; omega
      case c2 => unfold maxLen; simp; omega
      case c3 => have := HB.out.size; simp; omega
      intro x4 w4 o4 g4
      have HO4 : Hid (w4.ownsRow w1.heap.size 3 1 x4 (k + 1) ((G.take (k + 1)).map fun g => iv g.M.length)) := by
        show World.ownsRow _ _ _ _ _ _ _
        rw [HT.out]
        simpa [iv] using o4
      have HB4 : Hid (Below w1.heap.size w1 w4) := HB.out.trans (((Below.refl w1.heap.size wr).alloc HB.out.size _).grown g4 (by simp; have := HB.out.size; omega) (fun j hj => (HO.out.lt j hj).1))
      clear o4 g4
      go_wp2_with fail
      go_roundw
      case rel => exact ⟨k + 1, by omega, by go_num, HO4, HB4⟩
      case measure => simp [intOf]; omega
    · obtain rfl : k = G.length := by omega
      go_wp2_with fail
      go_ret
      have := HO.out
      rw [List.take_length] at this
      exact ⟨_, rfl, this, HB.out⟩

set_option maxHeartbeats 2000000 in
set_option maxRecDepth 100000 in
theorem cloneG_any (x : Value) (G : List Pg) (w : World) (h : Pgs w x G) (hn : G.length ≤ 1000000) : Calls Try.prog 35 #[x] w (fun e w' => ∃ y, e = .returned y ∧ w'.ownsRow w.heap.size 29 1 y G.length (G.map sv) ∧ Below w.heap.size w w') := by
  obtain ⟨ao, c, rfl, hm⟩ := h.form
  have heq := fun W => Lib.run_eql_slice_nil (P := Try.prog) W 63 29 ao G.length c 0 0 Try.underlying63
  cases ao with
  | none =>
    have hg0 : G = [] ∧ c = 0 := by
      obtain ⟨ao', c', he, h1, h2, h3, -⟩ := h.1
      simp only [Value.slice.injEq, List.length_map] at he
      have := h3 he.1.symm
      rw [List.length_map] at h1
      exact ⟨List.eq_nil_of_length_eq_zero (by omega), by omega⟩
    obtain ⟨rfl, rfl⟩ := hg0
    simp only [List.length_nil] at heq ⊢
    clear h
    go_enter Try.func35, Try.ntmps35
    go_wp2_with fail
    go_ret
    exact ⟨_, rfl, World.ownsRow_nil _ _ _ _, Below.refl _ _⟩
  | some a =>
    have HR := hid (h.1.old ((Below.refl w.heap.size w).alloc (Nat.le_refl _) (.cells #[] 29)))
    have hown : (w.alloc (.cells #[] 29)).ownsRow w.heap.size 29 1 (.slice (some ⟨w.heap.size, 0, none⟩) 0 0) 0 [] := World.ownsRow_made w #[] 0 (Nat.le_refl _) (by decide) rfl
    have HO := hid hown
    have hf := flat_sv G
    clear h hown
    go_enter Try.func35, Try.ntmps35
    go_wp2_with (first
      | (at_builtin; refine wp_rapp rfl _ _ 63 rfl w.heap.size 1 24 29 Try.underlying63 _ info_row (by decide) (by decide) _ _ _ rfl HO.out _ (G.map rowG) rfl HR.out ?c1 ?c2 ?c3 ?_))
    case c1 => rw [List.length_map]; omega
    case c2 => rw [List.length_map]; unfold maxLen; omega
    case c3 => simp
    intro v' w1 o1 g1
    have HO1 := hid o1
    have HB1 : Hid (Below w.heap.size w w1) := ((Below.refl _ _).alloc (Nat.le_refl _) _).grown g1 (by simp) (fun k hk => by simp [Value.ownBlock] at hk; omega)
    clear o1 g1
    go_wp2_with fail
    go_ret
    have := HO1.out
    try simp only [List.length_map, Nat.zero_add, List.nil_append] at this
    try rw [hf] at this
    exact ⟨_, rfl, this, HB1.out⟩
end Go.Proofs.Ytcgnghkjkdkmmaa
