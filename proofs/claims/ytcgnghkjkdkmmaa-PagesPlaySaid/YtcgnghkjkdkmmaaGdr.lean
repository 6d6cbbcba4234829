/-
  PAGES: Drop.
-/
import Derived.Test.YtcgnghkjkdkmmaaGfk
set_option linter.unusedVariables false
namespace Go.Proofs.Ytcgnghkjkdkmmaa
open Go.RowKit Go.Shelf

/-- What a key's going leaves. -/
def dropM (key : List UInt8) (M : List Lp) : List Lp := M.filter (fun m => !(m.key == key))

theorem drop_keep {key : List UInt8} {M : List Lp} (h : ∀ x ∈ M, x.key ≠ key) : dropM key M = M := by
  unfold dropM
  rw [List.filter_eq_self]
  intro x hx
  simpa using h x hx

theorem drop_flat {ML : List (List Lp)} {key : List UInt8} {p i : Nat} (h : SpotOk ML key p i) (hs : Srt ML.flatten) (hat : isAt ML key p i = true) :
    (changeL ML p i p (i + 1) []).flatten = dropM key ML.flatten := by
  have hlow := h.low
  have hfl := h.flat
  obtain ⟨q, hq, hqk⟩ : ∃ q, (pgAt ML p)[i]? = some q ∧ q.key = key := by
    unfold isAt at hat
    cases hq : (pgAt ML p)[i]? with
    | none => rw [hq] at hat; cases hat
    | some q => rw [hq] at hat; exact ⟨q, rfl, by simpa using hat⟩
  have hi : i < (pgAt ML p).length := (List.getElem?_eq_some_iff.1 hq).1
  have hd : (pgAt ML p).drop i = q :: (pgAt ML p).drop (i + 1) := by
    rw [List.drop_eq_getElem_cons hi]
    have := (List.getElem?_eq_some_iff.1 hq).2
    rw [this]
  have hhi : ∀ x ∈ (pgAt ML p).drop (i + 1) ++ (ML.drop (p + 1)).flatten, lt key x.key := fun x hx => by
    rw [hfl, hd] at hs
    have := (List.pairwise_append.1 hs).2.1
    rw [List.cons_append, List.pairwise_cons] at this
    rw [← hqk]
    exact this.1 x hx
  rw [change_flat]
  unfold headL
  conv => rhs; rw [hfl, hd]
  have e1 : dropM key ((ML.take p).flatten ++ (pgAt ML p).take i) = (ML.take p).flatten ++ (pgAt ML p).take i := drop_keep fun x hx e => lt_irrefl key (by have := hlow x hx; rwa [e] at this)
  have e2 : dropM key ((pgAt ML p).drop (i + 1) ++ (ML.drop (p + 1)).flatten) = (pgAt ML p).drop (i + 1) ++ (ML.drop (p + 1)).flatten := drop_keep fun x hx e => lt_irrefl key (by have := hhi x hx; rwa [e] at this)
  have e3 : dropM key (((ML.take p).flatten ++ (pgAt ML p).take i) ++ (q :: (pgAt ML p).drop (i + 1) ++ (ML.drop (p + 1)).flatten)) = dropM key ((ML.take p).flatten ++ (pgAt ML p).take i) ++ dropM key ((pgAt ML p).drop (i + 1) ++ (ML.drop (p + 1)).flatten) := by
    unfold dropM
    rw [List.filter_append, List.cons_append, List.filter_cons_of_neg (by simp [hqk])]
  rw [e3, e1, e2]
  simp

theorem drop_fin {base mb : Nat} {v v' : Value} {G G' : List Pg} {key : List UInt8} {p i : Nat} {w W wz : World} (HM : Mp base w mb v G) (HF : Fit G) (HSP : SpotOk (mls G) key p i) (hat : isAt (mls G) key p i = true)
    (hW : Below w.heap.size w W) (z1 : Mp base wz mb v' G') (z2 : mls G' = changeL (mls G) p i p (i + 1) []) (z3 : Keep (MX mb v) W wz) (z4 : ∀ k, v'.ownBlock = some k → v.ownBlock = some k ∨ W.heap.size ≤ k) (z5 : ∀ g ∈ G', g ∈ G ∨ ∀ a, g.a = some a → W.heap.size ≤ a.block) :
    Turned base mb v G (dropM key (mls G).flatten) w wz v' G' := by
  have hfl : (mls G').flatten = dropM key (mls G).flatten := by rw [z2]; exact drop_flat HSP HF.srt hat
  have hlt := isAt_lt hat
  have hpg := HF.page p
  have hple : p < (mls G).length := by
    rcases Nat.lt_or_ge p (mls G).length with h | h
    · exact h
    · rw [pgAt_ge h] at hlt; simp at hlt
  have hhl : (headL (mls G) p i p (i + 1) []).length ≤ 9 := by
    unfold headL
    simp only [List.length_append, List.length_take, List.length_drop, List.length_nil]
    omega
  have hsub : ∀ x ∈ dropM key (mls G).flatten, x ∈ (mls G).flatten := fun x hx => (List.mem_filter.1 hx).1
  refine ⟨z1, ⟨?_, ?_, ?_⟩, hfl, (Keep.of_below hW).trans z3, fun k hk => (z4 k hk).imp id (fun h => Nat.le_trans hW.size h), fun g hg => (z5 g hg).imp id (fun h a ha => Nat.le_trans hW.size (h a ha)), fun x hx => ?_⟩
  · rw [z2]
    exact change_ok (mls G) p i p (i + 1) [] HF.ok (Nat.le_refl _) HSP.le (by omega) (fun e => by omega)
  · rw [hfl]; exact List.Pairwise.filter _ HF.srt
  · rw [hfl]; exact Nat.le_trans (List.length_filter_le _ _) HF.len
  · rw [hfl] at hx
    exact .inl (hsub x hx)
set_option maxHeartbeats 1000000 in
set_option maxRecDepth 100000 in
theorem all_val (p : Value) (G : List Pg) (w : World) (h : MapR w p G) : ∃ ao c, Pgs w (.slice ao G.length c) G ∧ ∀ W, Below w.heap.size w W → Calls Try.prog 31 #[p] W (fun e w' => e = .returned (.slice ao G.length c) ∧ w' = W) := by
  rcases h with ⟨rfl, rfl⟩ | ⟨base, mb, v, rfl, hM⟩
  · refine ⟨none, 0, Pgs.nil w, fun W hW => ?_⟩
    go_enter Try.func31, Try.ntmps31
    go_wp2_with fail
    go_ret
    exact ⟨rfl, rfl⟩
  · obtain ⟨ao, c, rfl, -⟩ := hM.pgs.form
    refine ⟨ao, c, hM.pgs, fun W hW => ?_⟩
    have c0 : W.cell? ⟨mb, 0, none⟩ = some (.slice ao G.length c) := by simp [World.cell?, (hW.block _ (lt_of_block hM.hd)).trans hM.hd]
    clear hM
    go_enter Try.func31, Try.ntmps31
    go_wp2_with fail
    go_ret
    exact ⟨rfl, rfl⟩
end Go.Proofs.Ytcgnghkjkdkmmaa
