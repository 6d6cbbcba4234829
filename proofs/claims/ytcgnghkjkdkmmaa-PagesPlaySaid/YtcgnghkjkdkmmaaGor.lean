/-
  PAGES: two maps side by side; lists in order that have the same pairs.
-/
import Derived.Test.YtcgnghkjkdkmmaaGfl
set_option linter.unusedVariables false
namespace Go.Proofs.Ytcgnghkjkdkmmaa
open Go.RowKit Go.Shelf

theorem mem_putM_iff {p x : Lp} : ∀ {A : List Lp}, (∀ y ∈ A, y.key ≠ p.key) → (x ∈ putM A p ↔ x = p ∨ x ∈ A)
  | [], _ => by simp [putM]
  | a :: A, h => by
    have ha : (a.key == p.key) = false := by simpa using h a (by simp)
    have ih := mem_putM_iff (p := p) (x := x) (A := A) (fun y hy => h y (List.mem_cons_of_mem _ hy))
    unfold putM
    split
    · rw [List.mem_cons, ih, List.mem_cons]
      constructor
      · rintro (h | h | h)
        · exact .inr (.inl h)
        · exact .inl h
        · exact .inr (.inr h)
      · rintro (h | h | h)
        · exact .inr (.inl h)
        · exact .inl h
        · exact .inr (.inr h)
    · rw [ha]
      simp [List.mem_cons]

/-- Two lists in order with the same pairs are the same. -/
theorem srt_eq : ∀ {A B : List Lp}, Srt A → Srt B → (∀ y, y ∈ A.map lg ↔ y ∈ B.map lg) → A.map lg = B.map lg
  | [], [], _, _, _ => rfl
  | [], b :: B, _, _, h => by have := (h (lg b)).2 (by simp); simp at this
  | a :: A, [], _, _, h => by have := (h (lg a)).1 (by simp); simp at this
  | a :: A, b :: B, ha, hb, h => by
    have ha2 := List.pairwise_cons.1 ha
    have hb2 := List.pairwise_cons.1 hb
    have key : ∀ {u v : Lp}, lg u = lg v → u.key = v.key := fun e => (lg_fields e).1
    have hab : lg a = lg b := by
      have h1 := (h (lg a)).1 (by simp)
      have h2 := (h (lg b)).2 (by simp)
      rw [List.map_cons, List.mem_cons] at h1 h2
      rcases h1 with h1 | h1
      · exact h1
      · rcases h2 with h2 | h2
        · exact h2.symm
        · obtain ⟨x, hx, ex⟩ := List.mem_map.1 h1
          obtain ⟨y, hy, ey⟩ := List.mem_map.1 h2
          have l1 := hb2.1 x hx
          have l2 := ha2.1 y hy
          rw [key ex] at l1
          rw [key ey] at l2
          exact (lt_asymm l1 l2).elim
    rw [List.map_cons, List.map_cons, hab, srt_eq ha2.2 hb2.2 (fun y => ?_)]
    have h0 := h y
    rw [List.map_cons, List.map_cons, List.mem_cons, List.mem_cons, hab] at h0
    constructor
    · intro hy
      rcases h0.1 (.inr hy) with e | e
      · obtain ⟨x, hx, ex⟩ := List.mem_map.1 hy
        have l1 := ha2.1 x hx
        rw [key (ex.trans e), ← key hab] at l1
        exact (lt_irrefl _ l1).elim
      · exact e
    · intro hy
      rcases h0.2 (.inr hy) with e | e
      · obtain ⟨x, hx, ex⟩ := List.mem_map.1 hy
        have l1 := hb2.1 x hx
        rw [key (ex.trans e)] at l1
        exact (lt_irrefl _ l1).elim
      · exact e

theorem Turned.offnew {base mb : Nat} {v v' : Value} {G G' : List Pg} {L : List Lp} {W W1 : World} {X : Nat → Prop} (ht : Turned base mb v G L W W1 v' G') (hX : ∀ k, X k → k < W.heap.size) (ho : Off X G) : Off X G' := fun g hg => by
  have hpo : ∀ m ∈ (mls G).flatten, OffP X m := fun m hm => by
    obtain ⟨l, hl, hm2⟩ := List.mem_flatten.1 hm
    obtain ⟨g0, hg0, rfl⟩ := List.mem_map.1 hl
    exact (ho g0 hg0).2 m hm2
  refine ⟨fun hn a ha hk => ?_, fun m hm => ?_⟩
  · rcases ht.pages g hg with h | h
    · exact (ho g h).1 hn a ha hk
    · have := h a ha
      have := hX _ hk
      omega
  · rcases ht.pairs m (List.mem_flatten.2 ⟨g.M, mls_mem hg, hm⟩) with h | h
    · exact hpo m h
    · exact ⟨fun _ a ha hk => by have := h.1 a ha; have := hX _ hk; omega, fun _ a ha hk => by have := h.2 a ha; have := hX _ hk; omega⟩

/-- Put, whatever the pair. -/
theorem put_all (base mb : Nat) (v : Value) (G : List Pg) (m : Lp) (w : World) (hM : Mp base w mb v G) (hF : Fit G) (hm : RdP w m) (hlen : (mls G).flatten.length < 100000) :
    Calls Try.prog 20 #[.pointer (some ⟨mb, 0, none⟩), pv m] w (fun e w' => e = .returned (.int .i64 (mayE m)) ∧ ∃ m' v' G', Alike m' m ∧ Turned base mb v G (if mayE m = 0 then putM (mls G).flatten m' else (mls G).flatten) w w' v' G') := by
  by_cases h : mayE m = 0
  · rw [h]
    exact put_any base mb v G m w hM hF hm h hlen
  · refine (put_no (some ⟨mb, 0, none⟩) m w hm (.inr h)).mono ?_
    rintro e w' ⟨rfl, hb⟩
    refine ⟨rfl, m, v, G, ⟨rfl, rfl, rfl⟩, ?_⟩
    rw [if_neg h]
    exact ⟨hM.old hb, hF, rfl, Keep.of_below hb, fun k hk => .inl hk, fun g hg => .inl hg, fun x hx => .inl hx⟩

/-- A map that holds the first n of some pairs (those that may be there), taken in some order. -/
structure Has (base : Nat) (M : List Lp) (o : Nat → Nat) (n mb : Nat) (v : Value) (G : List Pg) (W : World) : Prop where
  mp : Mp base W mb v G
  fit : Fit G
  len : (mls G).flatten.length ≤ n
  mem : ∀ y, y ∈ (mls G).flatten.map lg ↔ ∃ j m, j < n ∧ M[o j]? = some m ∧ mayE m = 0 ∧ y = lg m

theorem Has.may {base : Nat} {M : List Lp} {o : Nat → Nat} {n mb : Nat} {v : Value} {G : List Pg} {W : World} (h : Has base M o n mb v G W) : ∀ m ∈ (mls G).flatten, mayE m = 0 := fun m hm => by
  obtain ⟨j, m', _, _, h1, e⟩ := (h.mem (lg m)).1 (List.mem_map.2 ⟨m, hm, rfl⟩)
  rw [mayE_alike (a := m) (b := m') (lg_fields e)]
  exact h1
theorem Has.old {base : Nat} {M : List Lp} {o : Nat → Nat} {n mb : Nat} {v : Value} {G : List Pg} {W W' : World} (h : Has base M o n mb v G W) (hb : Below W.heap.size W W') : Has base M o n mb v G W' := ⟨h.mp.old hb, h.fit, h.len, h.mem⟩
theorem Has.nil {base : Nat} {M : List Lp} {o : Nat → Nat} {mb : Nat} {W : World} (h : Mp base W mb (.slice none 0 0) []) : Has base M o 0 mb (.slice none 0 0) [] W := ⟨h, fit_nil, by simp [mls], fun y => by simp [mls]⟩

/-- The next one. -/
theorem Has.next {base : Nat} {M : List Lp} {o : Nat → Nat} {n mb : Nat} {v v' : Value} {G G' : List Pg} {W W' : World} {m m' : Lp} (h : Has base M o n mb v G W) (hm : M[o n]? = some m) (hal : Alike m' m)
    (hd : ∀ j u, j < n → M[o j]? = some u → u.key ≠ m.key) (ht : Turned base mb v G (if mayE m = 0 then putM (mls G).flatten m' else (mls G).flatten) W W' v' G') : Has base M o (n + 1) mb v' G' W' := by
  have hk : ∀ y ∈ (mls G).flatten, y.key ≠ m'.key := fun y hy => by
    obtain ⟨j, u, hj, hu, _, e⟩ := (h.mem (lg y)).1 (List.mem_map.2 ⟨y, hy, rfl⟩)
    rw [(lg_fields e).1, hal.1]
    exact hd j u hj hu
  refine ⟨ht.mp, ht.fit, ?_, fun y => ?_⟩
  · rw [ht.flat]
    have := h.len
    split
    · have := len_putM m' (mls G).flatten; omega
    · omega
  · rw [ht.flat]
    by_cases hy0 : mayE m = 0
    · rw [if_pos hy0]
      constructor
      · intro hy
        obtain ⟨x, hx, rfl⟩ := List.mem_map.1 hy
        rcases (mem_putM_iff hk).1 hx with rfl | hx
        · exact ⟨n, m, by omega, hm, hy0, alike_lg hal⟩
        · obtain ⟨j, u, hj, hu⟩ := (h.mem (lg x)).1 (List.mem_map.2 ⟨x, hx, rfl⟩)
          exact ⟨j, u, by omega, hu⟩
      · rintro ⟨j, u, hj, hu, hu0, rfl⟩
        by_cases e : j = n
        · subst e
          rw [hm] at hu
          cases hu
          exact List.mem_map.2 ⟨m', (mem_putM_iff hk).2 (.inl rfl), alike_lg hal⟩
        · obtain ⟨x, hx, ex⟩ := List.mem_map.1 ((h.mem (lg u)).2 ⟨j, u, by omega, hu, hu0, rfl⟩)
          exact List.mem_map.2 ⟨x, (mem_putM_iff hk).2 (.inr hx), ex⟩
    · rw [if_neg hy0, h.mem]
      constructor
      · rintro ⟨j, u, hj, hu⟩
        exact ⟨j, u, by omega, hu⟩
      · rintro ⟨j, u, hj, hu, hu0, rfl⟩
        by_cases e : j = n
        · subst e
          rw [hm] at hu
          cases hu
          exact (hy0 hu0).elim
        · exact ⟨j, u, by omega, hu, hu0, rfl⟩

/-- All of them, in whatever order. -/
theorem has_same {base baseB : Nat} {M : List Lp} {t mb mb2 : Nat} {v v2 : Value} {G G2 : List Pg} {W W2 : World} (hA : Has base M (fun j => j) M.length mb v G W) (hB : Has baseB M (fun j => (j + t) % M.length) M.length mb2 v2 G2 W2) (hpos : 0 < M.length) :
    (mls G).flatten.map lg = (mls G2).flatten.map lg := by
  refine srt_eq hA.fit.srt hB.fit.srt (fun y => ?_)
  rw [hA.mem, hB.mem]
  constructor
  · rintro ⟨j, m, hj, hm, h⟩
    refine ⟨(j + (M.length - t % M.length)) % M.length, m, Nat.mod_lt _ hpos, ?_, h⟩
    have e : ((j + (M.length - t % M.length)) % M.length + t) % M.length = j := by
      have h1 := Nat.mod_lt t hpos
      rw [Nat.add_mod, Nat.mod_mod, ← Nat.add_mod]
      have h2 : j + (M.length - t % M.length) + t = j + M.length * (t / M.length + 1) := by
        have h3 := Nat.div_add_mod t M.length
        rw [Nat.mul_add, Nat.mul_one]
        omega
      rw [h2, Nat.add_mul_mod_self_left, Nat.mod_eq_of_lt hj]
    show M[((j + (M.length - t % M.length)) % M.length + t) % M.length]? = some m
    rw [e]
    exact hm
  · rintro ⟨j, m, hj, hm, h⟩
    exact ⟨(j + t) % M.length, m, Nat.mod_lt _ hpos, hm, h⟩
end Go.Proofs.Ytcgnghkjkdkmmaa
