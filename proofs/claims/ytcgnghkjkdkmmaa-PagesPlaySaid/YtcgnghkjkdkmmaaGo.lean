/-
  PAGES: a pair put into a list in order: the mathematics.
-/
import Derived.Test.YtcgnghkjkdkmmaaGn
set_option linter.unusedVariables false
namespace Go.Proofs.Ytcgnghkjkdkmmaa

/-- A pair in its place, or in that of the one with its key. -/
def putM : List Lp → Lp → List Lp
  | [], p => [p]
  | q :: l, p => if Op.bytesLess q.key p.key = true then q :: putM l p else if (q.key == p.key) = true then p :: l else p :: q :: l

/-- What stands behind it. -/
def restM (M : List Lp) (k : Nat) (p : Lp) : List Lp := match M[k]? with
  | some q => if (q.key == p.key) = true then M.drop (k + 1) else M.drop k
  | none => []

theorem putM_at (p : Lp) : ∀ (M : List Lp) (k : Nat), (∀ (j : Nat) (u : Lp), j < k → M[j]? = some u → Op.bytesLess u.key p.key = true) → (∀ (u : Lp), M[k]? = some u → Op.bytesLess u.key p.key = false) → k ≤ M.length →
    putM M p = M.take k ++ p :: restM M k p
  | [], k, _, _, hk => by
    simp only [List.length_nil, Nat.le_zero_eq] at hk
    subst hk
    rfl
  | q :: l, 0, _, h2, _ => by
    have := h2 q rfl
    unfold putM restM
    rw [this]
    simp only [Bool.false_eq_true, if_false, List.take_zero, List.nil_append, List.getElem?_cons_zero, List.drop_zero, List.drop_succ_cons]
    split <;> rfl
  | q :: l, k + 1, h1, h2, hk => by
    have hq := h1 0 q (by omega) rfl
    unfold putM
    rw [if_pos hq, putM_at p l k (fun j u hj hu => h1 (j + 1) u (by omega) (by simpa using hu)) (fun u hu => h2 u (by simpa using hu)) (by simpa using hk)]
    unfold restM
    simp only [List.take_succ_cons, List.cons_append, List.getElem?_cons_succ, List.drop_succ_cons]


theorem putM_mem (p : Lp) : ∀ (M : List Lp) (x : Lp), x ∈ putM M p → x ∈ M ∨ x = p
  | [], x, h => by simp [putM] at h; exact .inr h
  | q :: l, x, h => by
    unfold putM at h
    split at h
    · rcases List.mem_cons.1 h with rfl | h
      · exact .inl (by simp)
      · exact (putM_mem p l x h).imp (fun h => by simp [h]) id
    · split at h
      · rcases List.mem_cons.1 h with rfl | h
        · exact .inr rfl
        · exact .inl (by simp [h])
      · rcases List.mem_cons.1 h with rfl | h
        · exact .inr rfl
        · exact .inl h

theorem putM_srt (p : Lp) : ∀ (M : List Lp), Srt M → Srt (putM M p)
  | [], _ => by unfold putM Srt; simp
  | q :: l, h => by
    have h' := h
    unfold Srt at h
    rw [List.pairwise_cons] at h
    unfold putM
    split
    · rename_i hlt
      unfold Srt
      rw [List.pairwise_cons]
      refine ⟨fun x hx => ?_, putM_srt p l h.2⟩
      rcases putM_mem p l x hx with h1 | h1
      · exact h.1 x h1
      · rw [h1]; exact lt_less.1 hlt
    · rename_i hlt
      have hn : ¬ lt q.key p.key := less_lt.1 (by simpa using hlt)
      split
      · rename_i he
        have e : q.key = p.key := by simpa using he
        unfold Srt
        rw [List.pairwise_cons]
        exact ⟨fun x hx => by rw [← e]; exact h.1 x hx, h.2⟩
      · rename_i he
        have hp : lt p.key q.key := by
          rcases Classical.em (lt p.key q.key) with h2 | h2
          · exact h2
          · exact (he (by rw [lt_eq hn h2]; simp)).elim
        unfold Srt
        rw [List.pairwise_cons]
        refine ⟨fun x hx => ?_, h'⟩
        rcases List.mem_cons.1 hx with rfl | hx
        · exact hp
        · exact lt_trans hp (h.1 x hx)

theorem putM_len (p : Lp) : ∀ (M : List Lp), (putM M p).length ≤ M.length + 1
  | [] => by simp [putM]
  | q :: l => by
    have := putM_len p l
    unfold putM
    split
    · simp; exact this
    · split <;> simp

/-- Where a pair goes on pages. -/
theorem put_flat {ML : List (List Lp)} {m m' : Lp} (hk : m'.key = m.key) {p i : Nat} (h : SpotOk ML m.key p i) :
    (changeL ML p i p (if isAt ML m.key p i = true then i + 1 else i) [m']).flatten = putM ML.flatten m' := by
  have hb := h.bound
  rw [change_flat, putM_at m' ML.flatten (idx ML p i) (fun j u hj hu => by
    rw [lt_less, hk]
    exact h.lowT u (List.mem_iff_getElem?.2 ⟨j, by rw [List.getElem?_take, if_pos hj]; exact hu⟩)) (fun u hu => by
    rw [less_lt, hk]
    exact h.highD u (List.mem_iff_getElem?.2 ⟨0, by rw [List.getElem?_drop]; exact hu⟩)) (idx_bound hb), take_idx ML p i hb]
  unfold headL
  have hfi : ML.flatten[idx ML p i]? = ((pgAt ML p).drop i ++ (ML.drop (p + 1)).flatten)[0]? := by rw [← drop_idx ML p i hb, List.getElem?_drop]; rfl
  rcases Nat.lt_or_ge p ML.length with hp | hp
  · have hi := h.here hp
    have hq : (pgAt ML p)[i]? = some (pgAt ML p)[i] := List.getElem?_eq_getElem hi
    generalize (pgAt ML p)[i] = q at hq
    have hd : (pgAt ML p).drop i = q :: (pgAt ML p).drop (i + 1) := by
      rw [List.drop_eq_getElem_cons hi]
      have := (List.getElem?_eq_some_iff.1 hq).2
      rw [this]
    have hf : ML.flatten[idx ML p i]? = some q := by rw [hfi, hd]; rfl
    have ha : isAt ML m.key p i = (q.key == m.key) := by unfold isAt; rw [hq]
    rw [ha]
    unfold restM
    rw [hf, hk]
    simp only
    cases he : q.key == m.key with
    | true =>
      have e1 : ML.flatten.drop (idx ML p i + 1) = (pgAt ML p).drop (i + 1) ++ (ML.drop (p + 1)).flatten := by
        rw [← List.drop_drop, drop_idx ML p i hb, hd]
        rfl
      simp [e1]
    | false =>
      simp only [Bool.false_eq_true, if_false]
      rw [drop_idx ML p i hb]
      simp
  · have hpe : p = ML.length := by have := h.le; omega
    have hi0 := h.none hpe
    subst hi0
    have e1 : pgAt ML p = [] := pgAt_ge hp
    have e2 : ML.drop (p + 1) = [] := List.drop_of_length_le (by omega)
    unfold restM
    rw [hfi, e1, e2]
    simp [e1]
end Go.Proofs.Ytcgnghkjkdkmmaa
