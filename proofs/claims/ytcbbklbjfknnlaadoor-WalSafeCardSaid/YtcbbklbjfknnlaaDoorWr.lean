/-
  WAL: records in memory.
-/
import Derived.Test.YtcbbklbjfknnlaaDoorWq
import Derived.Lib.SliceRun
set_option linter.unusedVariables false
set_option maxRecDepth 100000
namespace Go.Proofs.YtcbbklbjfknnlaaDoor
open Go.RowKit

/-- A record, with the slice that holds it. -/
structure Rc where
  a : Option Addr
  c : Nat
  b : List UInt8
def rcv (r : Rc) : Value := .slice r.a r.b.length r.c
/-- A list of records: its row, from some place of its block on. -/
structure Rof (w : World) (rv : Value) (R : List Rc) : Prop where
  row : (rv = .slice none 0 0 ∧ R = []) ∨ ∃ g o cap cur, rv = .slice (some ⟨g, o, none⟩) R.length cap ∧ w.heap[g]? = some (.cells cur 32 (0, 0)) ∧ R.length ≤ cap ∧ cap ≤ maxLen ∧ o + cap ≤ cur.size ∧ ∀ (j : Nat) r, R[j]? = some r → cur[o + j]? = some (rcv r)
  each : ∀ r ∈ R, Rd w (rcv r) r.b

theorem Rof.form {w : World} {rv : Value} {R : List Rc} (h : Rof w rv R) : ∃ ao c, rv = .slice ao R.length c ∧ R.length ≤ c ∧ c ≤ maxLen := by
  rcases h.row with ⟨rfl, rfl⟩ | ⟨g, o, cap, cur, rfl, _, h1, h2, _⟩
  · exact ⟨_, _, rfl, by simp, by simp⟩
  · exact ⟨_, _, rfl, h1, h2⟩
theorem Rof.nil (w : World) : Rof w (.slice none 0 0) [] := ⟨.inl ⟨rfl, rfl⟩, fun r hr => by cases hr⟩
theorem Rof.kept {w w' : World} {rv : Value} {R : List Rc} {X : Nat → Prop} (h : Rof w rv R) (hk : Keep X w w') (hx : ∀ k, blk rv = some k → ¬ X k) (hr : ∀ r ∈ R, r.b ≠ [] → ∀ a, r.a = some a → ¬ X a.block) : Rof w' rv R := by
  refine ⟨?_, fun r hm => (h.each r hm).keep hk (fun hn k hb => by obtain ⟨a, e, rfl⟩ := blk_of hb; exact hr r hm hn a e)⟩
  rcases h.row with h1 | ⟨g, o, cap, cur, rfl, hg, h1⟩
  · exact .inl h1
  · exact .inr ⟨g, o, cap, cur, rfl, (hk.block g (lt_of_block hg) (hx g rfl)).trans hg, h1⟩
theorem Rof.old {w w' : World} {rv : Value} {R : List Rc} (h : Rof w rv R) (hb : Below w.heap.size w w') : Rof w' rv R :=
  h.kept (X := fun _ => False) (Keep.of_below hb) (fun _ _ h => h) (fun _ _ _ _ _ h => h)
/-- One record's cell. -/
theorem Rof.get {w : World} {ao : Option Addr} {m c : Nat} {R : List Rc} (h : Rof w (.slice ao m c) R) {k : Nat} {r : Rc} (hk : R[k]? = some r) : ∃ g o, ao = some ⟨g, o, none⟩ ∧ w.cell? ⟨g, o + k, none⟩ = some (rcv r) := by
  rcases h.row with ⟨_, rfl⟩ | ⟨g, o, cap, cur, e, hg, _, _, _, h4⟩
  · simp at hk
  · simp only [Value.slice.injEq] at e
    refine ⟨g, o, e.1, ?_⟩
    unfold World.cell?
    rw [hg]
    exact h4 k r hk

theorem info_parts' {P : Program} {e : TypeId} {z : Value} {s b : Nat} (h : (P.info? e).map (fun i => (i.zero, i.size, i.bytes)) = some (some z, s, b)) : ∃ i, P.info? e = some i ∧ i.zero = some z ∧ i.size = s ∧ i.bytes = b := by
  cases hq : P.info? e with
  | none => rw [hq] at h; cases h
  | some i => rw [hq] at h; simp at h; exact ⟨i, rfl, h⟩
theorem info_bs : (Tryd.prog.info? 32).map (fun i => (i.zero, i.size, i.bytes)) = some (some (.slice none 0 0), 1, 24) := by kernel_rfl

theorem setCells_kept {b : Nat} : ∀ (vs : List Value) (o : Nat) (w : World), Keep (fun k => k = b) w (w.setCells b o vs) := fun vs o w => Keep.setCells (X := fun k => k = b) rfl vs o w w (Keep.refl _ _)

/-- The first n records struck, and cut off. -/
theorem Rof.cut {w : World} {rv : Value} {R : List Rc} (h : Rof w rv R) (n : Nat) (hn : n ≤ R.length) (hr : ∀ r ∈ R, r.b ≠ [] → ∀ a, r.a = some a → blk rv ≠ some a.block) :
    ∃ ao c vt w', (rv = .slice ao R.length c ∧ n ≤ c) ∧ (∀ k W, (Instr.slice 22 rv none (some (.int k (n : Int))) none).run Tryd.prog W = .ok (.slice ao n c) W) ∧ (∀ ty, (Builtin.clear_ #[22] ty #[.slice ao n c]).run Tryd.prog w = .ok (.tuple #[]) w') ∧
      (∀ W, (Instr.slice 22 rv (some (.int .i64 (n : Int))) none none).run Tryd.prog W = .ok vt W) ∧ Rof w' vt (R.drop n) ∧ Keep (fun k => blk rv = some k) w w' ∧ (∀ k, blk vt = some k → blk rv = some k) := by
  obtain ⟨i0, hi, hz0, hz1, hz2⟩ := info_parts' (show (Tryd.prog.info? 32).map (fun i => (i.zero, i.size, i.bytes)) = some (some (.slice none 0 0), 1, 24) from info_bs)
  have ht' : Tryd.prog.underlying 22 = some (.slice (Tryd.prog.elem 22)) := by simp [Program.elem, Tryd.underlying22]
  have he : Tryd.prog.elem 22 = 32 := by simp [Program.elem, Tryd.underlying22]
  have hs : ∀ W, (sizeOf 32).run Tryd.prog W = .ok 1 W := fun W => by simp [sizeOf, typeInfo, hi, hz1]
  obtain ⟨ao, c, rfl, hlc, hcm⟩ := h.form
  refine ⟨ao, c, .slice (if c = n then ao else ao.map (·.add (n * 1))) (R.length - n) (c - n), ?_⟩
  have hnc : n ≤ c := by omega
  have hs1 : ∀ k W, (Instr.slice 22 (.slice ao R.length c) none (some (.int k (n : Int))) none).run Tryd.prog W = .ok (.slice ao n c) W := fun k W => by
    rw [run_slice_h W 22 _ _ _ ht' k _ (by omega) (by omega), he, hs]
    simp only [Result.andThen, sliced]
    have hsame : (if c = 0 then ao else ao.map (·.add (0 * 1))) = ao := by
      split
      · rfl
      · cases ao <;> simp [Addr.add]
    rw [hsame]
    simp
  have hs2 : ∀ W, (Instr.slice 22 (.slice ao R.length c) (some (.int .i64 (n : Int))) none none).run Tryd.prog W = .ok (.slice (if c = n then ao else ao.map (·.add (n * 1))) (R.length - n) (c - n)) W := fun W => by
    rw [run_slice_l W 22 _ _ _ ht' .i64 _ (by omega) (by omega), he, hs]
    simp [Result.andThen, sliced]
  have hblk : ∀ k, blk (.slice (if c = n then ao else ao.map (·.add (n * 1))) (R.length - n) (c - n)) = some k → blk (.slice ao R.length c) = some k := fun k hk => by
    split at hk
    · cases ao with
      | none => cases hk
      | some a => exact hk
    · cases ao with
      | none => cases hk
      | some a => simpa [blk, add_block] using hk
  rcases h.row with ⟨e, rfl⟩ | ⟨g, o, cap, cur, e, hg, h1, h2, h3, h4⟩
  · simp only [Value.slice.injEq] at e
    obtain ⟨rfl, -, rfl⟩ := e
    have hn0 : n = 0 := by simpa using hn
    subst hn0
    refine ⟨w, ⟨rfl, hnc⟩, hs1, fun ty => ?_, hs2, by simpa using h, Keep.refl _ _, hblk⟩
    simp [Builtin.clear_, run_underlying Tryd.underlying22]
  · simp only [Value.slice.injEq, true_and] at e
    obtain ⟨rfl, rfl⟩ := e
    by_cases hn0 : n = 0
    · subst hn0
      have e0 : (if c = 0 then some (⟨g, o, none⟩ : Addr) else (some (⟨g, o, none⟩ : Addr)).map (·.add (0 * 1))) = some ⟨g, o, none⟩ := by
        split
        · rfl
        · simp [Addr.add]
      refine ⟨w, ⟨rfl, hnc⟩, hs1, fun ty => ?_, hs2, ?_, Keep.refl _ _, hblk⟩
      · simp [Builtin.clear_, run_underlying Tryd.underlying22]
      · rw [e0, Nat.sub_zero, Nat.sub_zero, List.drop_zero]
        exact h
    · have hcl := Lib.run_clear_slice (P := Tryd.prog) w 22 32 3 (.slice none 0 0) Tryd.underlying22 (fun W => by simp [zeroValue, typeInfo, hi, hz0]) rfl rfl g o n c (by omega)
        (fun j hj => by
          unfold World.cell?
          rw [hg]
          show (cur[o + j]?).isSome = true
          rw [Array.getElem?_eq_getElem (by omega)]
          rfl)
        (fun j hj => by unfold World.frozen?; rw [hg]; simp)
      obtain ⟨cur', q1, q2, q3⟩ := setCells_at (List.replicate n (.slice none 0 0)) o w cur hg (by rw [List.length_replicate]; omega)
      have hkp := setCells_kept (b := g) (List.replicate n (.slice none 0 0)) o w
      refine ⟨w.setCells g o (List.replicate n (.slice none 0 0)), ⟨rfl, hnc⟩, hs1, fun ty => ?_, hs2, ⟨.inr ?_, fun r hm => ?_⟩, hkp.mono (fun k _ e => by rw [e]; rfl), hblk⟩
      · have := Lib.run_clear_slice (P := Tryd.prog) w 22 32 ty (.slice none 0 0) Tryd.underlying22 (fun W => by simp [zeroValue, typeInfo, hi, hz0]) rfl rfl g o n c (by omega)
          (fun j hj => by
            unfold World.cell?
            rw [hg]
            show (cur[o + j]?).isSome = true
            rw [Array.getElem?_eq_getElem (by omega)]
            rfl)
          (fun j hj => by unfold World.frozen?; rw [hg]; simp)
        exact this
      · by_cases hcn : c = n
        · rw [if_pos hcn]
          have hd : R.drop n = [] := List.drop_eq_nil_of_le (by omega)
          refine ⟨g, o, c - n, cur', by rw [hd]; simp; omega, q1, by rw [hd]; simp, by omega, by rw [q2]; omega, fun j r hj => by rw [hd] at hj; simp at hj⟩
        · rw [if_neg hcn]
          refine ⟨g, o + n, c - n, cur', by rw [List.length_drop, Nat.mul_one, Option.map_some, Addr.add_mid], q1, by rw [List.length_drop]; omega, by omega, by rw [q2]; omega, fun j r hj => ?_⟩
          rw [List.getElem?_drop] at hj
          rw [q3, List.length_replicate, if_neg (by omega), Nat.add_assoc]
          exact h4 (n + j) r hj
      · have hm2 := List.mem_of_mem_drop hm
        exact (h.each r hm2).keep hkp (fun hne k hk e => by
          obtain ⟨a, ha, hak⟩ := blk_of hk
          exact hr r hm2 hne a ha (by rw [hak, e]; rfl))
end Go.Proofs.YtcbbklbjfknnlaaDoor
