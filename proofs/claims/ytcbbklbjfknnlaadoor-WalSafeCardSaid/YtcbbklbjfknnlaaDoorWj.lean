/-
  WAL: one record appended to the log's list.
-/
import Derived.Test.YtcbbklbjfknnlaaDoorWi
import Derived.ArgAppend
set_option linter.unusedVariables false
set_option maxRecDepth 100000
namespace Go.Proofs.YtcbbklbjfknnlaaDoor
open Go.RowKit

theorem Rof.of_own {B : Nat} {w : World} {v : Value} {R : List Rc} (h : w.ownsRow B 32 1 v R.length (R.map rcv)) (he : ∀ r ∈ R, Rd w (rcv r) r.b) : Rof w v R := by
  refine ⟨?_, he⟩
  rcases h.2 with ⟨rfl, h0⟩ | ⟨g, cap, cur, rfl, hb, hg, hn, hc, hs, ht⟩
  · exact .inl ⟨rfl, List.eq_nil_of_length_eq_zero h0⟩
  · refine .inr ⟨g, 0, cap, cur, rfl, hg, hn, hc, by omega, fun j r hj => ?_⟩
    have hlt : j < R.length := (List.getElem?_eq_some_iff.1 hj).1
    have h1 : (cur.toList.take (R.length * 1))[j]? = some (rcv r) := by rw [ht, List.getElem?_map, hj]; rfl
    rw [List.getElem?_take, if_pos (by omega)] at h1
    rw [Nat.zero_add]
    simpa using h1

theorem Rof.app {w : World} {rv : Value} {R : List Rc} (h : Rof w rv R) (r : Rc) (hrd : Rd w (rcv r) r.b) (q : Nat) (hq : w.cell? ⟨q, 0, none⟩ = some (rcv r)) (hR : R.length + 1 ≤ 1000000) (hoff : ∀ x ∈ R ++ [r], x.b ≠ [] → ∀ a, x.a = some a → blk rv ≠ some a.block) (ty : TypeId) :
    ∃ v' w', (Builtin.append_ #[22, 22] ty #[rv, .slice (some ⟨q, 0, none⟩) 1 1]).run Tryd.prog w = .ok v' w' ∧ Rof w' v' (R ++ [r]) ∧ Keep (fun k => blk rv = some k) w w' ∧ (∀ k, blk v' = some k → blk rv = some k ∨ w.heap.size ≤ k) := by
  obtain ⟨i0, hi, hz0, hz1, hz2⟩ := info_parts' (show (Tryd.prog.info? 32).map (fun i => (i.zero, i.size, i.bytes)) = some (some (.slice none 0 0), 1, 24) from info_bs)
  have hl : ([rcv r] : List Value).length = 1 * i0.size := by rw [hz1]; rfl
  have hn : ∀ j u, ([rcv r] : List Value)[j]? = some u → w.cell? ((⟨q, 0, none⟩ : Addr).add j) = some u := fun j u hu => by
    cases j with
    | zero => simp at hu; rw [← hu]; simpa [Addr.add] using hq
    | succ j => simp at hu
  have h1 : ∀ u ∈ ([rcv r] : List Value), u.oneCell' = true := fun u hu => by obtain rfl := List.mem_singleton.1 hu; rfl
  have hall : ∀ x ∈ R ++ [r], Rd w (rcv x) x.b := fun x hx => (List.mem_append.1 hx).elim (h.each x) (fun hx => by obtain rfl := List.mem_singleton.1 hx; exact hrd)
  have hrk : ∀ w', Keep (fun k => blk rv = some k) w w' → ∀ x ∈ R ++ [r], Rd w' (rcv x) x.b := fun w' hk x hx => (hall x hx).keep hk (fun hne k hb e => by
    obtain ⟨a, ha, rfl⟩ := blk_of hb
    exact hoff x hx hne a ha e)
  rcases h.row with ⟨rfl, rfl⟩ | ⟨g, o, cap, cur, rfl, hg, q1, q2, q3, q4⟩
  · obtain ⟨v', w', hrun, ho, hgr, -⟩ := run_append_own (P := Tryd.prog) w w.heap.size 22 ty 32 i0 _ 1 24 Tryd.underlying22 hi hz0 hz1 hz2 rfl (by decide) _ 0 [] (World.ownsRow_nil w w.heap.size 32 1) ⟨q, 0, none⟩ 1 1 [rcv r] (by rfl) hn h1 (by decide) (by decide) (Nat.le_refl _)
    have hk : Keep (fun k => blk (.slice none 0 0) = some k) w w' := Keep.of_grown hgr (fun k e => by cases e)
    refine ⟨v', w', hrun, Rof.of_own (B := w.heap.size) (R := [r]) (by simpa using ho) (hrk w' hk), hk, fun k hk => .inr ?_⟩
    obtain ⟨a, c, e⟩ := own_form ho
    rw [e] at ho hk
    cases a with
    | none => cases hk
    | some a => exact (ho.lt k hk).1
  · by_cases hroom : R.length + 1 ≤ cap
    · have hin : ∀ j, j < ([rcv r] : List Value).length → (w.cell? ⟨g, o + R.length * i0.size + j, none⟩).isSome = true := fun j hj => by
        have hj0 : j = 0 := by simpa using hj
        unfold World.cell?
        rw [hg]
        show (cur[o + R.length * i0.size + j]?).isSome = true
        rw [hz1, Array.getElem?_eq_getElem (by omega)]
        rfl
      have hrun := run_append_room_cells (P := Tryd.prog) w 22 ty 32 i0 Tryd.underlying22 hi g o R.length cap ⟨q, 0, none⟩ 1 1 [rcv r] hl hn h1 hroom hin (fun j hj => by unfold World.frozen?; rw [hg]; simp)
      rw [hz1, Nat.mul_one] at hrun
      have hk : Keep (fun k => blk (.slice (some ⟨g, o, none⟩) R.length cap) = some k) w (w.setCells g (o + R.length) [rcv r]) := (setCells_kept [rcv r] (o + R.length) w).mono (fun k _ e => by rw [e]; rfl)
      obtain ⟨cur', p1, p2, p3⟩ := setCells_at [rcv r] (o + R.length) w cur hg (by simp; omega)
      refine ⟨_, _, hrun, ⟨.inr ⟨g, o, cap, cur', by rw [List.length_append]; rfl, p1, by rw [List.length_append]; exact hroom, q2, by rw [p2]; exact q3, fun j x hj => ?_⟩, hrk _ hk⟩, hk, fun k hk => .inl hk⟩
      rw [p3, List.length_singleton]
      by_cases hjl : j < R.length
      · rw [if_neg (by omega)]
        rw [List.getElem?_append_left hjl] at hj
        exact q4 j x hj
      · have hlt := (List.getElem?_eq_some_iff.1 hj).1
        rw [List.length_append, List.length_singleton] at hlt
        have hje : j = R.length := by omega
        subst hje
        rw [List.getElem?_append_right (Nat.le_refl _)] at hj
        simp at hj
        rw [if_pos (by omega), Nat.sub_self, ← hj]
        rfl
    · have holds : ∀ j u, (R.map rcv)[j]? = some u → w.cell? ((⟨g, o, none⟩ : Addr).add j) = some u := fun j u hu => by
        rw [List.getElem?_map] at hu
        cases hj : R[j]? with
        | none => rw [hj] at hu; cases hu
        | some x =>
          rw [hj] at hu
          cases hu
          rw [Addr.add_mid]
          unfold World.cell?
          rw [hg]
          exact q4 j x hj
      obtain ⟨v', w', hrun, ho, hgr⟩ := run_append_arg_grows (P := Tryd.prog) w 22 ty 32 i0 _ 1 24 Tryd.underlying22 hi hz0 hz1 hz2 rfl (by decide) ⟨g, o, none⟩ R.length cap (R.map rcv) (by simp) holds ⟨q, 0, none⟩ 1 1 [rcv r] (by rfl) hn (by omega) (by simp [maxLen]; omega) (by omega)
      have hk : Keep (fun k => blk (.slice (some ⟨g, o, none⟩) R.length cap) = some k) w w' := Keep.of_grown hgr (fun k e => by cases e)
      refine ⟨v', w', hrun, Rof.of_own (B := w.heap.size) (by rw [List.length_append, List.map_append]; exact ho) (hrk w' hk), hk, fun k hk => .inr ?_⟩
      obtain ⟨a, c, e⟩ := own_form ho
      rw [e] at ho hk
      cases a with
      | none => cases hk
      | some a => exact (ho.lt k hk).1
end Go.Proofs.YtcbbklbjfknnlaaDoor
