/-
  LAYER 12, THE CODE's: slices.Delete of one index.
-/
import Derived.Test.YtafcbelkhhjcoaaSqt
import Derived.Laws.OwnMore
import Derived.Laws.CopyRow
set_option linter.unusedVariables false
set_option linter.unusedSimpArgs false
set_option maxRecDepth 100000
namespace Go.Proofs.Ytafcbelkhhjcoaa
open Go.RowKit Go.Deep

theorem own_take {w : World} {base size : Nat} {e : TypeId} {g n cap i : Nat} {xs : List Value} (h : w.ownsRow base e size (.slice (some ⟨g, 0, none⟩) n cap) n xs) (hi : i ≤ n) : w.ownsRow base e size (.slice (some ⟨g, 0, none⟩) i cap) i (xs.take (i * size)) := by
  obtain ⟨h1, h2⟩ := h
  rcases h2 with ⟨h9, -⟩ | ⟨g', cap', cur, h9, hb, hg, hn, hcm, hcs, htk⟩
  · simp at h9
  · simp only [Value.slice.injEq, Option.some.injEq, Addr.mk.injEq, and_true, true_and] at h9
    obtain ⟨rfl, rfl⟩ := h9
    have hle : i * size ≤ n * size := Nat.mul_le_mul_right _ hi
    refine ⟨by rw [List.length_take, h1]; omega, .inr ⟨g, cap, cur, rfl, hb, hg, by omega, hcm, hcs, ?_⟩⟩
    rw [← htk, List.take_take, Nat.min_eq_left hle]
theorem sl_lh {P : Program} (t e : TypeId) (ht : P.underlying t = some (.slice e)) {size : Nat} (hinfo : (P.info? e).map (fun i => i.size) = some size) (g n cap lo hi : Nat) (h1 : lo ≤ hi) (h2 : hi ≤ cap) (h3 : lo < cap) :
    ∀ W, (Instr.slice t (.slice (some ⟨g, 0, none⟩) n cap) (some (.int .i64 (lo : Int))) (some (.int .i64 (hi : Int))) none).run P W = .ok (.slice (some ⟨g, lo * size, none⟩) (hi - lo) (cap - lo)) W := fun W => by
  obtain ⟨i0, hi0, hz1⟩ : ∃ i, P.info? e = some i ∧ i.size = size := by
    cases hq : P.info? e with
    | none => rw [hq] at hinfo; cases hinfo
    | some i => rw [hq] at hinfo; exact ⟨i, rfl, by simpa using hinfo⟩
  have ht' : P.underlying t = some (.slice (P.elem t)) := by simp [Program.elem, ht]
  have he : P.elem t = e := by simp [Program.elem, ht]
  have hs : ∀ W, (sizeOf e).run P W = .ok size W := fun W => by simp [sizeOf, typeInfo, hi0, hz1]
  rw [run_slice_lh W t _ _ _ ht' .i64 .i64 _ _ (by omega) (by omega) (by omega), he, hs]
  simp [Result.andThen, sliced, Addr.add, show ¬ cap = lo by omega]
  intro h9; exact h9.symm
theorem sl_h {P : Program} (t e : TypeId) (ht : P.underlying t = some (.slice e)) {size : Nat} (hinfo : (P.info? e).map (fun i => i.size) = some size) (g n cap hi : Nat) (h2 : hi ≤ cap) :
    ∀ W, (Instr.slice t (.slice (some ⟨g, 0, none⟩) n cap) none (some (.int .i64 (hi : Int))) none).run P W = .ok (.slice (some ⟨g, 0, none⟩) hi cap) W := fun W => by
  obtain ⟨i0, hi0, hz1⟩ : ∃ i, P.info? e = some i ∧ i.size = size := by
    cases hq : P.info? e with
    | none => rw [hq] at hinfo; cases hinfo
    | some i => rw [hq] at hinfo; exact ⟨i, rfl, by simpa using hinfo⟩
  have ht' : P.underlying t = some (.slice (P.elem t)) := by simp [Program.elem, ht]
  have he : P.elem t = e := by simp [Program.elem, ht]
  have hs : ∀ W, (sizeOf e).run P W = .ok size W := fun W => by simp [sizeOf, typeInfo, hi0, hz1]
  rw [run_slice_h W t _ _ _ ht' .i64 _ (by omega) (by omega), he, hs]
  simp [Result.andThen, sliced, Addr.add]
theorem sl_lhm {P : Program} (t e : TypeId) (ht : P.underlying t = some (.slice e)) {size : Nat} (hinfo : (P.info? e).map (fun i => i.size) = some size) (g n cap lo : Nat) (hi mx : Int) (h1 : (lo : Int) ≤ hi) (h2 : hi ≤ mx) (h3 : mx ≤ cap) :
    ∀ W, (Instr.slice t (.slice (some ⟨g, 0, none⟩) n cap) (some (.int .i64 (lo : Int))) (some (.int .i64 hi)) (some (.int .i64 mx))).run P W = .ok (sliced (some ⟨g, 0, none⟩) (lo : Int).toNat hi.toNat mx.toNat size) W := by
  obtain ⟨i0, hi0, hz1⟩ : ∃ i, P.info? e = some i ∧ i.size = size := by
    cases hq : P.info? e with
    | none => rw [hq] at hinfo; cases hinfo
    | some i => rw [hq] at hinfo; exact ⟨i, rfl, by simpa using hinfo⟩
  have ht' : P.underlying t = some (.slice (P.elem t)) := by simp [Program.elem, ht]
  have he : P.elem t = e := by simp [Program.elem, ht]
  have hs : ∀ W, (sizeOf e).run P W = .ok size W := fun W => by simp [sizeOf, typeInfo, hi0, hz1]
  intro W
  rw [run_slice_lhm W t _ _ _ ht' .i64 .i64 .i64 _ _ _ (by omega) (by omega) (by omega) (by omega), he, hs]
  simp only [Result.andThen]

theorem sl_l {P : Program} (t e : TypeId) (ht : P.underlying t = some (.slice e)) {size : Nat} (hinfo : (P.info? e).map (fun i => i.size) = some size) (g n cap lo : Nat) (h1 : lo ≤ n) :
    ∀ W, (Instr.slice t (.slice (some ⟨g, 0, none⟩) n cap) (some (.int .i64 (lo : Int))) none none).run P W = .ok (.slice (if cap = lo then some ⟨g, 0, none⟩ else some ⟨g, lo * size, none⟩) (n - lo) (cap - lo)) W := fun W => by
  obtain ⟨i0, hi0, hz1⟩ : ∃ i, P.info? e = some i ∧ i.size = size := by
    cases hq : P.info? e with
    | none => rw [hq] at hinfo; cases hinfo
    | some i => rw [hq] at hinfo; exact ⟨i, rfl, by simpa using hinfo⟩
  have ht' : P.underlying t = some (.slice (P.elem t)) := by simp [Program.elem, ht]
  have he : P.elem t = e := by simp [Program.elem, ht]
  have hs : ∀ W, (sizeOf e).run P W = .ok size W := fun W => by simp [sizeOf, typeInfo, hi0, hz1]
  rw [run_slice_l W t _ _ _ ht' .i64 _ (by omega) (by omega), he, hs]
  simp [Result.andThen, sliced, Addr.add]
  split
  · rfl
  · split
    · rename_i h9; rw [h9]
    · rfl

/-- clear of one struct behind what is known of a row. -/
theorem clear_one {P : Program} {w : World} (t e : TypeId) (ht : P.underlying t = some (.slice e)) (z : Value) (size bytes : Nat) (hinfo : (P.info? e).map (fun i => (i.zero, i.size, i.bytes)) = some (some z, size, bytes)) (zs : List Value) (hz : (Builtin.zeroCells z.cells 1).toList = zs) (hzl : zs.length = size) (hz1 : ∀ v ∈ zs, v.oneCell' = true)
    (base g p cap c : Nat) (xs : List Value) (hown : w.ownsRow base e size (.slice (some ⟨g, 0, none⟩) p cap) p xs) (hp : p + 1 ≤ cap) :
    ∃ w', (∀ ty, (Builtin.clear_ #[t] ty #[.slice (some ⟨g, p * size, none⟩) 1 c]).run P w = .ok (.tuple #[]) w') ∧ w'.ownsRow base e size (.slice (some ⟨g, 0, none⟩) p cap) p xs ∧ w.grownBy w' (some g) := by
  obtain ⟨i, hi, hzz, hi1, hib⟩ := info3 hinfo
  obtain ⟨hxl, hrest⟩ := hown
  rcases hrest with ⟨h9, _⟩ | ⟨g', cap', cur, h9, hb, hg, hn, hcm, hcs, htk⟩
  · simp at h9
  · simp only [Value.slice.injEq, Option.some.injEq, Addr.mk.injEq, and_true, true_and] at h9
    obtain ⟨rfl, rfl⟩ := h9
    have hroom : p * size + size ≤ cap * size := by rw [← Nat.succ_mul]; exact Nat.mul_le_mul_right _ hp
    have hst := run_storeCells_at P g (p * size) e zs 0 cur w hg (by rw [hzl, hcs]; omega) hz1
    refine ⟨w.setRow g (cur.toList.take (p * size + 0) ++ zs ++ cur.toList.drop (p * size + 0 + zs.length)).toArray, fun ty => ?_, ?_, ⟨rfl, rfl, rfl, by simp, fun k _ hk => setRow_other w g k _ (fun e => hk (by simp [e]))⟩⟩
    · simp [Builtin.clear_, run_underlying ht, zeroValue, typeInfo, hi, hzz, hz, hst, Sem.run_bind, Result.andThen]
    · refine ⟨hxl, .inr ⟨g, cap, _, rfl, hb, setRow_heap w g _ _ e _ hg, hn, hcm, ?_, ?_⟩⟩
      · simp only [List.size_toArray, List.length_append, List.length_take, List.length_drop, Array.length_toList, hzl, hcs]; omega
      · rw [← htk]
        simp only [Nat.add_zero, List.append_assoc]
        rw [List.take_append_of_le_length (by rw [List.length_take, Array.length_toList, hcs]; omega), List.take_take, Nat.min_self]

theorem step_known {P : Program} {ops : Array Oper} {o : Oper} {a : Act} {w w' : World} {K : Act → World → Prop} {Q : Exit → Act → World → Prop} {E : Prop}
    (s x : Operand) (t : TypeId) (hop : o.op = Op.call { callee := Callee.builtin Builtin.append, args := #[s, x], argTypes := #[t, t] }) (hty : o.type = t)
    (u y v : Value) (hs : a.eval s = u) (hx : a.eval x = y) (hrun : (Builtin.append_ #[t, t] t #[u, y]).run P w = .ok v w')
    (hw : Region.wanted o (yielded ops a.tmps) = true) (hK : K (a.put o.dst v) w') :
    if Region.wanted o (yielded ops a.tmps) = true then Oper.wp P o a w K Q else E := by
  rw [if_pos hw]
  unfold Oper.wp
  simp [execOp, hop, hty, resolve, invoke, builtin, hs, hx, hrun, Result.andThen]
  exact hK

theorem zero7 : (Builtin.zeroCells (Value.agg #[.int .i64 0, .int .i64 0, .string ⟨#[]⟩, .slice none 0 0, .bool false, .int .i64 0, .bool false]).cells 1).toList = [.int .i64 0, .int .i64 0, .string ⟨#[]⟩, .slice none 0 0, .bool false, .int .i64 0, .bool false] := by
  simp [Builtin.zeroCells, Value.cells]
  rfl
theorem grown_keep {w w' : World} {g : Nat} (h : w.grownBy w' (some g)) : Keep (fun k => k = g) w w' := Keep.of_grown h (fun k e => by simpa using e.symm)

set_option maxHeartbeats 8000000 in
theorem delete_any (w : World) (base g q cap i : Nat) (M : List (List Value)) (hlen : M.length = q + 1) (hM : Wide 7 M) (hown : w.ownsRow base 37 7 (.slice (some ⟨g, 0, none⟩) (q + 1) cap) (q + 1) M.flatten) (hi : i ≤ q) (hq : q ≤ 100) :
    Calls Try.prog 192 #[.slice (some ⟨g, 0, none⟩) (q + 1) cap, .int .i64 (i : Int), .int .i64 ((i : Int) + 1)] w (fun e w' => e = .returned (.slice (some ⟨g, 0, none⟩) q cap) ∧ w'.ownsRow base 37 7 (.slice (some ⟨g, 0, none⟩) q cap) q (M.take i ++ M.drop (i + 1)).flatten ∧ Keep (fun k => k = g) w w') := by
  obtain ⟨n, hn⟩ : ∃ n, n = q + 1 := ⟨_, rfl⟩
  rw [← hn] at hown hlen ⊢
  have hcap : n ≤ cap := by
    rcases hown.2 with ⟨h9, -⟩ | ⟨g', cap', cur, h9, hb, hg, hn, hcm, hcs, htk⟩
    · simp at h9
    · simp only [Value.slice.injEq, Option.some.injEq, Addr.mk.injEq, and_true, true_and] at h9
      obtain ⟨rfl, rfl⟩ := h9
      exact hn
  have hu := Try.underlying23
  have hinf : (Try.prog.info? 37).map (fun i => (i.zero, i.size, i.bytes)) = some (some (.agg #[.int .i64 0, .int .i64 0, .string ⟨#[]⟩, .slice none 0 0, .bool false, .int .i64 0, .bool false]), 7, 80) := by kernel_rfl
  have hinf1 : (Try.prog.info? 37).map (fun i => i.size) = some 7 := by kernel_rfl
  obtain ⟨i0, hi0, hz0, hz1, hz2⟩ := info3 hinf
  have hs0 := sl_lhm (P := Try.prog) 23 37 hu hinf1 g n cap i ((i : Int) + 1) (n : Int) (by omega) (by omega) (by omega)
  generalize sliced (some ⟨g, 0, none⟩) (i : Int).toNat ((i : Int) + 1).toNat (n : Int).toNat 7 = v0 at hs0
  have hs1 := sl_h (P := Try.prog) 23 37 hu hinf1 g n cap i (by omega)
  have hR : Rws 7 w (.slice (some ⟨g, 0, none⟩) n cap) M := by
    have := Rws.own (e := 37) (base := base) (x := .slice (some ⟨g, 0, none⟩) n cap) (L := M) (by rw [hlen]; exact hown) hM
    exact this
  obtain ⟨ao, c2, hs2, hr2, -⟩ := hR.cut (P := Try.prog) (by decide) 23 37 hu hinf1 (i + 1) (by omega)
  have hs2l := sl_l (P := Try.prog) 23 37 hu hinf1 g n cap (i + 1) (by omega)
  obtain ⟨hao, hc2⟩ : (if cap = i + 1 then (some ⟨g, 0, none⟩ : Option Addr) else some ⟨g, (i + 1) * 7, none⟩) = ao ∧ cap - (i + 1) = c2 := by
    have h9 := (hs2l w).symm.trans (hs2 w)
    rw [hlen] at h9
    simp only [Result.ok.injEq, Value.slice.injEq, true_and, and_true] at h9
    exact h9
  have hic : i ≤ cap := by omega
  have h0i : (0 : Int) ≤ (i : Int) + 1 := by omega
  have hin : (i : Int) + 1 ≤ (n : Int) := by omega
  have hin2 : i + 1 ≤ n := by omega
  have hs2' : ∀ W, (Instr.slice 23 (.slice (some ⟨g, 0, none⟩) n cap) (some (.int .i64 ((i : Int) + 1))) none none).run Try.prog W = .ok (.slice ao (n - (i + 1)) c2) W := fun W => by
    have := hs2 W
    rw [hlen] at this
    rw [← this]; norm_cast
  have hr2' : Rws 7 w.drew (.slice ao (n - (i + 1)) c2) (M.drop (i + 1)) := by
    have := hr2.old (w' := w.drew) ⟨rfl, rfl, rfl, Nat.le_refl _, fun _ _ => rfl⟩
    rw [hlen] at this
    exact this
  have hoi : w.drew.ownsRow base 37 7 (.slice (some ⟨g, 0, none⟩) i cap) i ((M.take i).flatten) := by
    have := own_take (i := i) hown (by omega)
    have e9 : M.flatten.take (i * 7) = (M.take i).flatten := by
      have h8 : M.flatten = (M.take i).flatten ++ (M.drop i).flatten := by rw [← List.flatten_append, List.take_append_drop]
      have h7 : (M.take i).flatten.length = i * 7 := by rw [(hM.sub (fun r hr => List.mem_of_mem_take hr)).len, List.length_take]; congr 1; omega
      rw [h8, List.take_append_of_le_length (by omega), List.take_of_length_le (by omega)]
    rw [e9] at this
    exact this
  obtain ⟨w1, happ, ho1, hg1⟩ : ∃ w1, (∀ ty, (Builtin.append_ #[23, 23] ty #[.slice (some ⟨g, 0, none⟩) i cap, .slice ao (n - (i + 1)) c2]).run Try.prog w.drew = .ok (.slice (some ⟨g, 0, none⟩) q cap) w1) ∧
      w1.ownsRow base 37 7 (.slice (some ⟨g, 0, none⟩) q cap) q (M.take i ++ M.drop (i + 1)).flatten ∧ w.drew.grownBy w1 (some g) := by
    have hdl : (M.drop (i + 1)).length = n - (i + 1) := by rw [List.length_drop, hlen]
    have hsum : i + (n - (i + 1)) = q := by omega
    rw [List.flatten_append]
    cases ao with
    | none =>
      obtain ⟨h0, h1, rfl⟩ := nil_rws hr2'
      refine ⟨w.drew, fun ty => ?_, ?_, World.grownBy.refl _ _⟩
      · have := run_append_owned_none (P := Try.prog) (w := w.drew) base 23 ty 37 i0 7 hu hi0 (.slice (some ⟨g, 0, none⟩) i cap) i _ hoi
        rw [h1, this, show i = q by omega]
      · rw [h0, List.flatten_nil, List.append_nil]
        have e8 : i = q := by omega
        rw [← e8]; exact hoi
    | some ad =>
      obtain ⟨ao', c', he', p1, p2, p3, p5, p4⟩ := hr2'
      simp only [Value.slice.injEq] at he'
      obtain ⟨rfl, e7, rfl⟩ := he'
      obtain ⟨w1, _, ho1, hg1⟩ := run_append_fits (P := Try.prog) (w := w.drew) base 23 0 37 i0 7 hu hi0 hz1 g i cap _ hoi ad (n - (i + 1)) c2 (M.drop (i + 1)).flatten (by rw [p5.len, hdl]) (p4 ad rfl) p5.one (by omega)
      have hall : ∀ ty, (Builtin.append_ #[23, 23] ty #[.slice (some ⟨g, 0, none⟩) i cap, .slice (some ad) (n - (i + 1)) c2]).run Try.prog w.drew = .ok (.slice (some ⟨g, 0, none⟩) (i + (n - (i + 1))) cap) w1 := fun ty => by assumption
      rw [hsum] at hall ho1
      exact ⟨w1, hall, ho1, hg1⟩
  obtain ⟨w2, hcl, ho2, hg2⟩ := clear_one (P := Try.prog) (w := w1) 23 37 hu _ 7 80 hinf [.int .i64 0, .int .i64 0, .string ⟨#[]⟩, .slice none 0 0, .bool false, .int .i64 0, .bool false] (zero7) rfl (fun v hv => by simp only [List.mem_cons, List.not_mem_nil, or_false] at hv; rcases hv with rfl | rfl | rfl | rfl | rfl | rfl | rfl <;> rfl) base g q cap (cap - q) _ ho1 (by omega)
  have hs3 := sl_lh (P := Try.prog) 23 37 hu hinf1 g q cap q n (by omega) (by omega) (by omega)
  rw [show n - q = 1 by omega] at hs3
  have HO2 := hid ho2
  have HK2 : Hid (Keep (fun k => k = g) w w2) := hid ((show Keep (fun k => k = g) w w.drew from ⟨rfl, rfl, rfl, Nat.le_refl _, fun _ _ _ => rfl⟩).trans ((grown_keep hg1).trans (grown_keep hg2)))
  have hne : ((i : Int) == (i : Int) + 1) = false := by rw [beq_eq_false_iff_ne]; omega
  have hncap : n ≤ cap := hcap
  clear ho1 ho2 hg1 hg2 hoi hr2 hr2' hR hs2 hown hM hi0 hz0 hz1 hz2 hinf hinf1 hu hlen
  go_enter Try.func192, Try.ntmps192
  go_upto_region 5 with fail
  refine wp_region_noPanic ?_
  refine wp_region_held_drew (S := fun _ => Hid True) (by kernel_rfl) (hid trivial) (fun hHeld => ?_)
  refine tkH 0 (.slice (some ⟨g, 0, none⟩) n cap) rfl (by kernel_rfl) (fun _ _ _ => False.elim) hHeld (Or.inl ⟨by rfl, fun W9 hW => by clear hHeld hW; simp only [jA, jB, jC]; go_simp⟩) ?_
  simp only [Act.put, jA, jB, jC, jD, jE, jF]
  refine tkH 1 (.int .i64 (i : Int)) rfl (by kernel_rfl) (fun _ _ _ => False.elim) hHeld (Or.inl ⟨by rfl, fun W9 hW => by clear hHeld hW; simp only [jA, jB, jC]; go_simp⟩) ?_
  simp only [Act.put, jA, jB, jC, jD, jE, jF]
  refine tkH 2 (.slice (some ⟨g, 0, none⟩) i cap) rfl (by kernel_rfl) (fun _ _ _ => False.elim) hHeld (Or.inl ⟨by rfl, fun W9 hW => by clear hHeld hW; simp only [jA, jB, jC]; go_simp⟩) ?_
  simp only [Act.put, jA, jB, jC, jD, jE, jF]
  refine tkH 3 (.slice (some ⟨g, 0, none⟩) n cap) rfl (by kernel_rfl) (fun _ _ _ => False.elim) hHeld (Or.inl ⟨by rfl, fun W9 hW => by clear hHeld hW; simp only [jA, jB, jC]; go_simp⟩) ?_
  simp only [Act.put, jA, jB, jC, jD, jE, jF]
  refine tkH 4 (.int .i64 ((i : Int) + 1)) rfl (by kernel_rfl) (fun _ _ _ => False.elim) hHeld (Or.inl ⟨by rfl, fun W9 hW => by clear hHeld hW; simp only [jA, jB, jC]; go_simp⟩) ?_
  simp only [Act.put, jA, jB, jC, jD, jE, jF]
  refine tkH 5 (.slice ao (n - (i + 1)) c2) rfl (by kernel_rfl) (fun _ _ _ => False.elim) hHeld (Or.inl ⟨by rfl, fun W9 hW => by clear hHeld hW; simp only [jA, jB, jC]; go_simp⟩) ?_
  simp only [Act.put, jA, jB, jC, jD, jE, jF]
  refine rdH 6 (by kernel_rfl) rfl fun K hK => ?_
  refine step_known (.tmp 22) (.tmp 25) 23 (by rfl) (by rfl) (.slice (some ⟨g, 0, none⟩) i cap) (.slice ao (n - (i + 1)) c2) (.slice (some ⟨g, 0, none⟩) q cap) (by rfl) (by rfl) (happ _) (by rfl) ?_
  refine hK.out _ _ (hid trivial) (fun hHeld => ?_)
  clear hK K
  try simp only [Act.put, jA, jB, jC, jD, jE, jF]
  refine tkH 7 (.slice (some ⟨g, 0, none⟩) q cap) rfl (by kernel_rfl) (fun _ _ _ => False.elim) hHeld (Or.inl ⟨by rfl, fun W9 hW => by clear hHeld hW; simp only [jA, jB, jC]; go_simp⟩) ?_
  simp only [Act.put, jA, jB, jC, jD, jE, jF]
  refine wpAnyH_done (by kernel_rfl) (NoPanic.normal ?_) _
  go_wp2_with fail
  go_ret
  exact ⟨rfl, HO2.out, HK2.out⟩
end Go.Proofs.Ytafcbelkhhjcoaa
