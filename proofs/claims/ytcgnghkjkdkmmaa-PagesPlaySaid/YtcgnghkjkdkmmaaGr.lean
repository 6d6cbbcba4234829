/-
  PAGES: laid; slices.Insert into nothing; slices.Replace in a row of the call's own.
-/
import Derived.Test.YtcgnghkjkdkmmaaGd
import Derived.Laws.CopyOwn
import Derived.Lib.AppendZerosOnto
import Derived.Lib.Overlaps
set_option linter.unusedVariables false
namespace Go.Proofs.Ytcgnghkjkdkmmaa
open Go.RowKit Go.Shelf

theorem grown_setRow (w : World) (g : Nat) (cs : Array Value) : w.grownBy (w.setRow g cs) (some g) :=
  ⟨rfl, rfl, rfl, by simp [World.setRow], fun k _ hk => setRow_other w g k cs (fun e => hk (by rw [e]))⟩

/-- copy into a row that is known whole. -/
theorem wp_copy_row {P : Program} {w : World} {ops : Array Oper} {rest : List Oper} {o : Oper} {a : Act} {Q : Exit → Act → World → Prop} (hgd : o.guard = none) (d s : Operand) (dT sT : TypeId)
    (ho : o.op = .call { callee := .builtin .copy, args := #[d, s], argTypes := #[dT, sT] }) (elem : TypeId) (hu : P.underlying dT = some (.slice elem)) (hsz : (P.info? elem).map (·.size) = some 1)
    (dp sp : Option Addr) (dLen dCap sLen sCap : Nat) (hd : a.eval d = .slice dp dLen dCap) (hs : a.eval s = .slice sp sLen sCap)
    (g off : Nat) (cur : List Value) (t : TypeId) (hg : w.heap[g]? = some (.cells cur.toArray t (0, 0))) (cs : List Value) (hn : cs.length = Nat.min sLen dLen)
    (hpos : 0 < cs.length → dp = some ⟨g, off, none⟩ ∧ ∃ ad, sp = some ad ∧ ∀ (j : Nat) v, cs[j]? = some v → w.cell? (ad.add j) = some v)
    (hfit : off + cs.length ≤ cur.length) (h1 : ∀ v ∈ cs, v.oneCell' = true)
    (h : ∀ w', Hid (w'.heap[g]? = some (.cells (splice cur off cs).toArray t (0, 0))) → Hid (w.grownBy w' (some g)) → wpList P ops Q rest (a.put o.dst (goInt cs.length)) w') :
    wpList P ops Q (o :: rest) a w := by
  by_cases h0 : cs.length = 0
  · obtain rfl : cs = [] := List.eq_nil_of_length_eq_zero h0
    refine wpList_copy_nothing hgd d s dT sT ho elem hu hsz dp sp dLen dCap sLen sCap hd hs (by simpa using hn.symm) ?_
    exact h w (show _ = _ by simpa [splice] using hg) (World.grownBy.refl _ _)
  · obtain ⟨rfl, ad, rfl, hsrc⟩ := hpos (by omega)
    refine wpList_copy_own hgd d s dT sT ho elem hu hsz g off dLen dCap ad sLen sCap hd hs cur.toArray t hg cs hn hsrc (by simpa using hfit) h1 ?_
    exact h _ (show _ = _ by simpa [splice] using setRow_heap w g _ _ t _ hg) (grown_setRow _ _ _)

theorem step_copy_row {P : Program} {ops : Array Oper} {o : Oper} {a : Act} {w : World} {K : Act → World → Prop} {Q : Exit → Act → World → Prop} {E : Prop} (hgd : o.guard = none) (d s : Operand) (dT sT : TypeId)
    (ho : o.op = .call { callee := .builtin .copy, args := #[d, s], argTypes := #[dT, sT] }) (elem : TypeId) (hu : P.underlying dT = some (.slice elem)) (hsz : (P.info? elem).map (·.size) = some 1)
    (dp sp : Option Addr) (dLen dCap sLen sCap : Nat) (hd : a.eval d = .slice dp dLen dCap) (hs : a.eval s = .slice sp sLen sCap)
    (g off : Nat) (cur : List Value) (t : TypeId) (hg : w.heap[g]? = some (.cells cur.toArray t (0, 0))) (cs : List Value) (hn : cs.length = Nat.min sLen dLen)
    (hpos : 0 < cs.length → dp = some ⟨g, off, none⟩ ∧ ∃ ad, sp = some ad ∧ ∀ (j : Nat) v, cs[j]? = some v → w.cell? (ad.add j) = some v)
    (hfit : off + cs.length ≤ cur.length) (h1 : ∀ v ∈ cs, v.oneCell' = true)
    (h : ∀ w', Hid (w'.heap[g]? = some (.cells (splice cur off cs).toArray t (0, 0))) → Hid (w.grownBy w' (some g)) → K (a.put o.dst (goInt cs.length)) w') :
    if Region.wanted o (yielded ops a.tmps) = true then Oper.wp P o a w K Q else E := by
  have hw : Region.wanted o (yielded ops a.tmps) = true := by simp [Region.wanted, hgd]
  rw [if_pos hw]
  by_cases h0 : cs.length = 0
  · obtain rfl : cs = [] := List.eq_nil_of_length_eq_zero h0
    have hrun := run_copy_none (P := P) w dT sT o.type elem dp sp dLen dCap sLen sCap hu hsz (by simpa using hn.symm)
    unfold Oper.wp
    simp [execOp, ho, resolve, invoke, builtin, hd, hs, hrun, Result.andThen]
    exact h w (show _ = _ by simpa [splice] using hg) (World.grownBy.refl _ _)
  · obtain ⟨rfl, ad, rfl, hsrc⟩ := hpos (by omega)
    have hrun := run_copy_row (P := P) w dT sT o.type elem g off dLen dCap ad sLen sCap cur.toArray t cs hu hsz hg hn hsrc (by simpa using hfit) h1
    unfold Oper.wp
    simp [execOp, ho, resolve, invoke, builtin, hd, hs, hrun, Result.andThen]
    exact h _ (show _ = _ by simpa [splice] using setRow_heap w g _ _ t _ hg) (grown_setRow _ _ _)

/-- clear behind what is known of a row. -/
theorem run_clear_row {P : Program} {w : World} (t e : TypeId) (ht : P.underlying t = some (.slice e)) (z : Value) (bytes : Nat) (hinfo : (P.info? e).map (fun i => (i.zero, i.size, i.bytes)) = some (some z, 1, bytes)) (hz : z.cells = #[z]) (hz1 : z.oneCell' = true)
    (dp : Option Addr) (k c : Nat) (base g p cap : Nat) (xs : List Value) (hown : w.ownsRow base e 1 (.slice (some ⟨g, 0, none⟩) p cap) p xs)
    (hpos : 0 < k → ∃ off, dp = some ⟨g, off, none⟩ ∧ p ≤ off ∧ off + k ≤ cap) :
    ∃ w', (∀ ty, (Builtin.clear_ #[t] ty #[.slice dp k c]).run P w = .ok (.tuple #[]) w') ∧ w'.ownsRow base e 1 (.slice (some ⟨g, 0, none⟩) p cap) p xs ∧ w.grownBy w' (some g) := by
  obtain ⟨i, hi, hzz, hi1, hib⟩ := info3 hinfo
  by_cases h0 : k = 0
  · subst h0
    refine ⟨w, fun ty => ?_, hown, World.grownBy.refl _ _⟩
    cases dp <;> simp [Builtin.clear_, run_underlying ht]
  · obtain ⟨off, rfl, hpo, hoc⟩ := hpos (by omega)
    obtain ⟨hxl, hrest⟩ := hown
    rcases hrest with ⟨h9, _⟩ | ⟨g', cap', cur, h9, hb, hg, hn, hcm, hcs, htk⟩
    · simp at h9
    · simp only [Value.slice.injEq, Option.some.injEq, Addr.mk.injEq, and_true, true_and] at h9
      obtain ⟨rfl, rfl⟩ := h9
      have hzl : (Builtin.zeroCells z.cells k).toList.length = k := by rw [Array.length_toList, zero_len, hz]; simp
      have hzs : (Builtin.zeroCells z.cells k).size = k := by rw [zero_len, hz]; simp
      have hst := run_storeCells_at P g off e (Builtin.zeroCells z.cells k).toList 0 cur w hg (by rw [hzl, hcs]; omega) (fun v hv => by
        simp [Builtin.zeroCells, hz] at hv
        obtain ⟨q, _, rfl⟩ := hv
        simpa [Nat.mod_one] using hz1)
      refine ⟨w.setRow g (cur.toList.take (off + 0) ++ (Builtin.zeroCells z.cells k).toList ++ cur.toList.drop (off + 0 + (Builtin.zeroCells z.cells k).toList.length)).toArray, fun ty => ?_, ?_, grown_setRow _ _ _⟩
      · obtain ⟨k', rfl⟩ : ∃ k', k = k' + 1 := ⟨k - 1, by omega⟩
        simp [Builtin.clear_, run_underlying ht, zeroValue, typeInfo, hi, hzz, hst, Sem.run_bind, Result.andThen]
      · refine ⟨hxl, .inr ⟨g, cap, _, rfl, hb, setRow_heap w g _ _ e _ hg, hn, hcm, ?_, ?_⟩⟩
        · simp only [List.size_toArray, List.length_append, List.length_take, List.length_drop, Array.length_toList, hzs, hcs]; omega
        · rw [← htk]
          simp only [Nat.mul_one, Nat.add_zero, List.append_assoc]
          rw [List.take_append_of_le_length (by rw [List.length_take, Array.length_toList, hcs]; omega), List.take_take, Nat.min_eq_left hpo]

/-- A page's slice. -/
def sv (g : Pg) : Value := .slice g.a g.M.length g.c
theorem sv_one (g : Pg) : (sv g).oneCell' = true := rfl

/-- A list of pages that a call has just made. -/
def Fresh (w : World) (v : Value) (T : List Pg) (w' : World) : Prop :=
  (T = [] ∧ v = .slice none 0 0) ∨ (0 < T.length ∧ ∃ g2, w.heap.size ≤ g2 ∧ v = .slice (some ⟨g2, 0, none⟩) T.length T.length ∧ w'.heap[g2]? = some (.cells (T.map sv).toArray 29 (0, 0)))

def LaidA (x : Value) (M : List Lp) (w : World) (e : Ending) (w' : World) : Prop := ∃ (T : List Pg) (v : Value), e = .returned v ∧ mls T = laidL M ∧ (∀ g ∈ T, RdG w g) ∧ Fresh w v T w' ∧ Below w.heap.size w w' ∧ (∀ g ∈ T, ∀ a, g.a = some a → blk x = some a.block)

set_option maxHeartbeats 4000000 in
set_option maxRecDepth 100000 in
theorem laid_any (ao : Option Addr) (c : Nat) (M : List Lp) (w : World) (hx : Prs w (.slice ao M.length c) M) (hl : M.length ≤ 1000000) :
    Calls Try.prog 47 #[.slice ao M.length c] w (LaidA (.slice ao M.length c) M w) := by
  have HX := hid hx
  clear hx
  by_cases h0 : M.length = 0
  · have hb : ((M.length : Int) == 0) = true := by simp [h0]
    go_enter Try.func47, Try.ntmps47
    go_wp2_with fail
    go_ret
    refine ⟨[], _, rfl, ?_, (fun g hg => by cases hg), .inl ⟨rfl, rfl⟩, Below.refl _ _, (fun g hg => by cases hg)⟩
    unfold laidL; rw [if_pos h0]; rfl
  · have hb : ((M.length : Int) == 0) = false := beq_eq_false_iff_ne.2 (by omega)
    by_cases h8 : M.length ≤ 8
    · have h8' : (M.length : Int) ≤ 8 := by omega
      go_enter Try.func47, Try.ntmps47
      go_wp2_with fail
      go_ret
      refine ⟨[⟨ao, c, M⟩], _, rfl, ?_, (fun g hg => by simp at hg; subst hg; exact HX.out), .inr ⟨by simp, w.heap.size, Nat.le_refl _, rfl, heap_alloc_new _ _⟩, (Below.refl _ _).alloc (Nat.le_refl _) _, (fun g hg a ha => by simp at hg; subst hg; simp only at ha; rw [ha]; rfl)⟩
      unfold laidL; rw [if_neg h0, if_pos h8]; rfl
    · have h8' : ¬ (M.length : Int) ≤ 8 := by omega
      obtain ⟨h, hh⟩ : ∃ h, h = M.length / 2 := ⟨_, rfl⟩
      have hq : (M.length : Int) / 2 = (h : Int) := by omega
      have hw : IntKind.i64.wrap (h : Int) = (h : Int) := by rw [IntKind.wrap_i64]; omega
      have hhl : h ≤ M.length := by omega
      have HH : Hid (laidL M = [M.take h, M.drop h]) := by show _ = _; unfold laidL; rw [if_neg h0, if_neg h8, hh]
      clear hh
      obtain ⟨ao2, c2, hs2, hr2, hk2⟩ := HX.out.1.head (P := Try.prog) 29 31 Try.underlying29 (by kernel_rfl) h (by rw [List.length_map]; omega)
      obtain ⟨ao3, c3, hs3, hr3, hk3⟩ := HX.out.1.cut (P := Try.prog) (by decide) 29 31 Try.underlying29 (by kernel_rfl) h (by rw [List.length_map]; omega)
      rw [List.length_map] at hs3 hr3
      have hs2' := fun W => hs2 .i64 W
      have H2 : Hid (Prs w (.slice ao2 h c2) (M.take h)) := ⟨by rw [List.map_take]; exact hr2, fun m hm => HX.out.2 m (List.mem_of_mem_take hm)⟩
      have H3 : Hid (Prs w (.slice ao3 (M.length - h) c3) (M.drop h)) := ⟨by rw [List.map_drop]; exact hr3, fun m hm => HX.out.2 m (List.mem_of_mem_drop hm)⟩
      have HK := hid (And.intro hk2 hk3)
      clear hs2 hr2 hr3 hk2 hk3
      go_enter Try.func47, Try.ntmps47
      go_wp2_with fail
      go_region
      all_goals (go_wp2_with fail)
      go_ret
      have e1 : (M.take h).length = h := by rw [List.length_take]; omega
      have e2 : (M.drop h).length = M.length - h := List.length_drop
      refine ⟨[⟨ao2, c2, M.take h⟩, ⟨ao3, c3, M.drop h⟩], _, rfl, HH.out.symm, ?_, .inr ⟨by simp, w.heap.size, Nat.le_refl _, rfl, ?_⟩, Below.drew ((Below.refl _ _).alloc (Nat.le_refl _) _), ?_⟩
      · intro g hg
        simp only [List.mem_cons, List.not_mem_nil, or_false] at hg
        rcases hg with rfl | rfl
        · show Prs w (.slice ao2 (M.take h).length c2) (M.take h)
          rw [e1]; exact H2.out
        · show Prs w (.slice ao3 (M.drop h).length c3) (M.drop h)
          rw [e2]; exact H3.out
      · show (w.alloc _).heap[w.heap.size]? = some (.cells #[.slice ao2 (M.take h).length c2, .slice ao3 (M.drop h).length c3] 29 (0, 0))
        rw [e1, e2]
        exact heap_alloc_new _ _
      · intro g hg a ha
        simp only [List.mem_cons, List.not_mem_nil, or_false] at hg
        rcases hg with rfl | rfl
        · simp only at ha; subst ha; exact HK.out.1 a.block rfl
        · simp only at ha; subst ha; have := HK.out.2 a.block rfl; simpa [blk] using this
end Go.Proofs.Ytcgnghkjkdkmmaa
