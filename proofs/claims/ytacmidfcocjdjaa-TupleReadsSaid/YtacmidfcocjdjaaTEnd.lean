/-
  END, the code's and the document's; slices.Clone at bytes.
-/
import Derived.Test.YtacmidfcocjdjaaTAwake
import Derived.Deep.AppendLies
namespace Go.Proofs.Ytacmidfcocjdjaa
open Go.RowKit

set_option maxHeartbeats 1000000 in
set_option maxRecDepth 100000 in
theorem clone_any (w : World) (x : Value) (l : List UInt8) (h : Rd w x l) (hl : l.length ≤ 140737488355328) :
    Calls Try.prog 34 #[x] w (Gives 5 w l) := by
  obtain ⟨ao, c, rfl, h1, h2, h3, h4⟩ := h
  cases ao with
  | none =>
    have hc := h3 rfl
    obtain rfl : l = [] := List.eq_nil_of_length_eq_zero (by omega)
    subst hc
    have heq := fun W => Lib.run_eql_slice_nil (P := Try.prog) W 27 5 none 0 0 0 0 Try.underlying27
    go_enter Try.func34, Try.ntmps34
    go_wp2_with fail
    go_ret
    exact ⟨_, rfl, World.ownsRow_nil _ _ _ _, Below.refl _ _⟩
  | some a =>
    have HR : Hid (Rd w (.slice (some a) l.length c) l) := ⟨some a, c, rfl, h1, h2, h3, h4⟩
    have heq := fun W => Lib.run_eql_slice_nil (P := Try.prog) W 27 5 (some a) l.length c 0 0 Try.underlying27
    have hown : (w.alloc (.cells #[] 5)).ownsRow w.heap.size 5 1 (.slice (some ⟨w.heap.size, 0, none⟩) 0 0) 0 [] := World.ownsRow_made w #[] 0 (Nat.le_refl _) (by decide) rfl
    have HR2 := HR.out.alloc (.cells #[] 5)
    clear h3 h4
    go_enter Try.func34, Try.ntmps34
    go_wp2_with (first
      | (at_builtin; refine wp_app rfl _ _ 27 rfl w.heap.size 5 Try.underlying27 (by kernel_rfl) _ _ _ rfl hown _ l rfl HR2 ?c1 ?c2 ?_))
    case c1 => omega
    case c2 => simp
    intro v' w1 hown' hgrow
    have hb : Below w.heap.size w w1 := ((Below.refl _ _).alloc (Nat.le_refl _) _).grown hgrow (by simp) (fun k hk => by simp [Value.ownBlock] at hk; omega)
    clear hgrow hown HR2
    go_wp2
    go_ret
    exact ⟨_, rfl, by simpa using hown', hb⟩

theorem end_round {l : List UInt8} {k : Nat} (hk : k + 1 ≤ l.length) (h : endL (l.take (k + 1)) = endL l) : (l[k] = 255 → endL (l.take k) = endL l) ∧ (l[k] ≠ 255 → endL l = l.take k ++ [l[k] + 1]) := by
  have e : l.take (k + 1) = l.take k ++ [l[k]] := by
    rw [List.take_add_one, List.getElem?_eq_getElem (by omega)]; rfl
  rw [e] at h
  constructor
  · intro h1
    rw [h1, endL_ff] at h
    exact h
  · intro h1
    rw [endL_not _ _ h1] at h
    exact h.symm

theorem end_set {l : List UInt8} {k : Nat} {c : UInt8} (hk : k < l.length) : ((l.take (k + 1)).map bv).set k (bv c) = (l.take k ++ [c]).map bv := by
  have e : l.take (k + 1) = l.take k ++ [l[k]] := by
    rw [List.take_add_one, List.getElem?_eq_getElem (by omega)]; rfl
  have hl : (l.take k).length = k := by rw [List.length_take]; omega
  rw [e, List.map_append, List.map_append, List.set_append_right _ _ (by rw [List.length_map, hl]; exact Nat.le_refl _), List.length_map, hl, Nat.sub_self]
  rfl

set_option maxHeartbeats 2000000 in
set_option maxRecDepth 100000 in
theorem end_any (x : Value) (l : List UInt8) (w : World) (hx : Rd w x l) (hl : l.length ≤ 140737488355328) :
    Calls Try.prog 21 #[x] w (Gives 5 w (endL l)) := by
  have hlen := hx.len (P := Try.prog) 27 5
  by_cases hl0 : l = []
  · subst hl0
    obtain ⟨ao, c, rfl, -⟩ := hx
    go_enter Try.func21, Try.ntmps21
    go_wp2_with fail
    refine wp_loop_rounds 1 ?_
    rw [rounds_succ]
    go_wp2_with fail
    go_ret
    exact ⟨_, rfl, World.ownsRow_nil _ _ _ _, Below.refl _ _⟩
  have hpos : 0 < l.length := List.length_pos_iff.2 hl0
  obtain ⟨b, off, cp, rfl, h1, h2, hc⟩ := hx.at hpos
  unfold maxLen at h2
  have HX := hid hx
  have HC := hid hc
  clear hx hc
  go_enter Try.func21, Try.ntmps21
  go_wp2_with fail
  go_loop [3] (fun i => ∃ k : Nat, k ≤ l.length ∧ i = .int .i64 k ∧ endL (l.take k) = endL l) (fun i => (intOf i).toNat)
  case atStart => exact ⟨l.length, Nat.le_refl _, rfl, by rw [List.take_length]⟩
  case round =>
    obtain ⟨k, hk, rfl, he⟩ := hrel
    have HE := hid he
    clear he
    cases k with
    | zero =>
      have HN : Hid (endL l = []) := by rw [Hid, ← HE.out]; rfl
      go_wp2_with fail
      go_ret
      rw [HN.out]
      exact ⟨_, rfl, World.ownsRow_nil _ _ _ _, Below.refl _ _⟩
    | succ k =>
      have hck := HC.out k (by omega)
      have HR := hid (end_round hk HE.out)
      have HS := hid (fun c => end_set (l := l) (k := k) (c := c) (by omega))
      have hw : IntKind.i64.wrap (((k + 1 : Nat) : Int) - 1) = (k : Int) := by rw [IntKind.wrap_i64]; omega
      have e1 : ((k + 1 : Nat) : Int) - 1 = (k : Int) := by omega
      have HCK := hid (List.getElem?_eq_getElem (by omega) : l[k]? = some l[k])
      have hll : (l.take (k + 1)).length = k + 1 := by rw [List.length_take]; omega
      have HLL := hid hll
      clear hll
      generalize l[k] = c at *
      by_cases hff : c = 255
      · subst hff
        have HN := hid (HR.out.1 rfl)
        go_wp2_with fail
        go_round
        case rel => exact ⟨k, by omega, by go_num, HN.out⟩
        case measure => simp [intOf]
      · have hcn : ¬ (c.toNat : Int) = 255 := by
          intro h; apply hff; apply UInt8.toNat_inj.1; show c.toNat = 255; omega
        have HN := hid (HR.out.2 hff)
        have hc256 := UInt8.toNat_lt c
        have hbv : bv (c + 1) = .int .u8 ((c.toNat : Int) + 1) := by
          unfold bv
          rw [UInt8.toNat_add]
          show Value.int .u8 (((c.toNat + 1) % 256 : Nat) : Int) = _
          congr 1
          omega
        have HB := hid hbv
        clear hbv HR
        obtain ⟨ao2, c2, hs2, hr2, hb2⟩ := HX.out.head (P := Try.prog) 27 5 Try.underlying27 (by kernel_rfl) (k + 1) hk
        have HR2 := hid hr2
        have hs2' := fun W => hs2 .i64 W
        have e2 : ((k + 1 : Nat) : Int) = (k : Int) + 1 := by omega
        rw [e2] at hs2'
        clear hr2 hb2 hs2
        have C := fun W (h : Rd W (.slice ao2 (k + 1) c2) (l.take (k + 1))) => clone_any W _ _ h (by rw [List.length_take]; omega)
        go_wp2_with (first | (go_at_call 34; go_loud (refine (C _ HR2.out).mono ?_)))
        intro e w1 hgv
        obtain ⟨ao3, c3, rfl, o1, b1⟩ := hgv.elim
        rw [HLL.out] at o1 ⊢
        have B1 := hid b1
        generalize Value.slice ao3 (k + 1) c3 = v1 at o1 ⊢
        clear hgv b1 C hs2'
        obtain ⟨g, cap, rfl, hg, hgl⟩ := o1.form (by omega)
        have O1 := hid o1
        have hb1 : w1.cell? ⟨g, k, none⟩ = some (.int .u8 (c.toNat : Int)) := by
          rw [o1.cellAt k (by omega)]
          rw [List.getElem?_map, List.getElem?_take_of_lt (by omega)]
          rw [HCK.out]; rfl
        have hf1 := o1.frozenAt k
        have HST := hid (o1.stored k (bv (c + 1)))
        have HG : Hid (w.heap.size ≤ g) := hg
        have hck2 : ¬ ((c.toNat : Int) = 255) := hcn
        clear o1
        go_wp2_with fail
        go_ret
        obtain ⟨h3, h4⟩ := HST.out
        rw [HS.out] at h3
        have hel : (endL l).length = k + 1 := by rw [HN.out, List.length_append, List.length_take]; simp; omega
        rw [HB.out] at h3 h4
        refine ⟨_, rfl, ?_, B1.out.grown h4 B1.out.size (fun k hk => by cases hk; exact HG.out)⟩
        rw [hel, HN.out]
        exact h3

set_option maxHeartbeats 2000000 in
set_option maxRecDepth 100000 in
theorem rend_any (x : Value) (l : List UInt8) (w : World) (hx : Rd w x l) (hl : l.length ≤ 140737488355328) :
    Calls Try.prog 23 #[x] w (Gives 5 w (endL l)) := by
  have hlen := hx.len (P := Try.prog) 27 5
  by_cases hl0 : l = []
  · subst hl0
    obtain ⟨ao, c, rfl, -⟩ := hx
    go_enter Try.func23, Try.ntmps23
    go_wp2_with fail
    refine wp_loop_rounds 1 ?_
    rw [rounds_succ]
    go_wp2_with fail
    go_ret
    exact ⟨_, rfl, World.ownsRow_nil _ _ _ _, Below.refl _ _⟩
  have hpos : 0 < l.length := List.length_pos_iff.2 hl0
  obtain ⟨b, off, cp, rfl, h1, h2, hc⟩ := hx.at hpos
  unfold maxLen at h2
  have HX := hid hx
  have HC := hid hc
  clear hx hc
  go_enter Try.func23, Try.ntmps23
  go_wp2_with fail
  go_loop [3] (fun i => ∃ k : Nat, k ≤ l.length ∧ i = .int .i64 k ∧ endL (l.take k) = endL l) (fun i => (intOf i).toNat)
  case atStart => exact ⟨l.length, Nat.le_refl _, rfl, by rw [List.take_length]⟩
  case round =>
    obtain ⟨k, hk, rfl, he⟩ := hrel
    have HE := hid he
    clear he
    cases k with
    | zero =>
      have HN : Hid (endL l = []) := by rw [Hid, ← HE.out]; rfl
      go_wp2_with fail
      go_ret
      rw [HN.out]
      exact ⟨_, rfl, World.ownsRow_nil _ _ _ _, Below.refl _ _⟩
    | succ k =>
      have hck := HC.out k (by omega)
      have HR := hid (end_round hk HE.out)
      have HS := hid (fun c => end_set (l := l) (k := k) (c := c) (by omega))
      have hw : IntKind.i64.wrap (((k + 1 : Nat) : Int) - 1) = (k : Int) := by rw [IntKind.wrap_i64]; omega
      have e1 : ((k + 1 : Nat) : Int) - 1 = (k : Int) := by omega
      have HCK := hid (List.getElem?_eq_getElem (by omega) : l[k]? = some l[k])
      have hll : (l.take (k + 1)).length = k + 1 := by rw [List.length_take]; omega
      have HLL := hid hll
      clear hll
      generalize l[k] = c at *
      by_cases hff : c = 255
      · subst hff
        have HN := hid (HR.out.1 rfl)
        go_wp2_with fail
        go_round
        case rel => exact ⟨k, by omega, by go_num, HN.out⟩
        case measure => simp [intOf]
      · have hcn : ¬ (c.toNat : Int) = 255 := by
          intro h; apply hff; apply UInt8.toNat_inj.1; show c.toNat = 255; omega
        have HN := hid (HR.out.2 hff)
        have hc256 := UInt8.toNat_lt c
        have hbv : bv (c + 1) = .int .u8 ((c.toNat : Int) + 1) := by
          unfold bv
          rw [UInt8.toNat_add]
          show Value.int .u8 (((c.toNat + 1) % 256 : Nat) : Int) = _
          congr 1
          omega
        have HB := hid hbv
        clear hbv HR
        obtain ⟨ao2, c2, hs2, hr2, hb2⟩ := HX.out.head (P := Try.prog) 27 5 Try.underlying27 (by kernel_rfl) (k + 1) hk
        have HR2 := hid hr2
        have hs2' := fun W => hs2 .i64 W
        have e2 : ((k + 1 : Nat) : Int) = (k : Int) + 1 := by omega
        rw [e2] at hs2'
        clear hr2 hb2 hs2
        go_wp2_with (first
          | (at_builtin; refine wp_app rfl _ _ 27 rfl w.heap.size 5 Try.underlying27 (by kernel_rfl) (.slice none 0 0) 0 [] rfl (World.ownsRow_nil _ _ _ _) _ _ rfl HR2.out ?c1 ?c2 ?_))
        case c1 => omega
        intro v1 w1 o1 g1
        rw [← List.map_take] at o1
        have B1 : Hid (Below w.heap.size w w1) := (Below.refl _ _).grown g1 (Nat.le_refl _) (fun k hk => by cases hk)
        clear g1 hs2'
        obtain ⟨g, cap, rfl, hg, hgl⟩ := o1.form (by omega)
        have O1 := hid o1
        have hb1 : w1.cell? ⟨g, k, none⟩ = some (.int .u8 (c.toNat : Int)) := by
          rw [o1.cellAt k (by omega)]
          rw [List.getElem?_map, List.getElem?_take_of_lt (by omega)]
          rw [HCK.out]; rfl
        have hf1 := o1.frozenAt k
        have HST := hid (o1.stored k (bv (c + 1)))
        have HG : Hid (w.heap.size ≤ g) := hg
        have hck2 : ¬ ((c.toNat : Int) = 255) := hcn
        clear o1
        go_wp2_with fail
        go_ret
        obtain ⟨h3, h4⟩ := HST.out
        rw [HS.out] at h3
        have hel : (endL l).length = k + 1 := by rw [HN.out, List.length_append, List.length_take]; simp; omega
        rw [HB.out] at h3 h4
        refine ⟨_, rfl, ?_, B1.out.grown h4 B1.out.size (fun k hk => by cases hk; exact HG.out)⟩
        rw [hel, HN.out]
        exact h3
end Go.Proofs.Ytacmidfcocjdjaa
