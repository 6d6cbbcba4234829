/-
  PAGES: a map and a plain list that are filled side by side.
-/
import Derived.Test.YtcgnghkjkdkmmaaGtw
import Derived.Test.YtcgnghkjkdkmmaaGpt
set_option linter.unusedVariables false
namespace Go.Proofs.Ytcgnghkjkdkmmaa
open Go.RowKit Go.Shelf

theorem lg_fields {a b : Lp} (h : lg a = lg b) : a.key = b.key ∧ a.val = b.val ∧ a.ver = b.ver := by
  unfold lg at h
  simp only [Prod.mk.injEq] at h
  exact h

theorem putM_lg {p q : Lp} (hpq : lg p = lg q) : ∀ {A B : List Lp}, A.map lg = B.map lg → (putM A p).map lg = (putM B q).map lg
  | [], [], _ => by simp [putM, hpq]
  | [], b :: B, h => by simp at h
  | a :: A, [], h => by simp at h
  | a :: A, b :: B, h => by
    simp only [List.map_cons, List.cons.injEq] at h
    obtain ⟨h1, h2⟩ := h
    have hk : a.key = b.key := (lg_fields h1).1
    have hp : p.key = q.key := (lg_fields hpq).1
    unfold putM
    rw [hk, hp]
    split
    · simp only [List.map_cons, h1, putM_lg hpq h2]
    · split
      · simp only [List.map_cons, hpq, h2]
      · simp only [List.map_cons, hpq, h1, h2]

theorem mem_putM {p x : Lp} : ∀ {A : List Lp}, x ∈ putM A p → x = p ∨ x ∈ A
  | [], h => by simpa [putM] using h
  | a :: A, h => by
    unfold putM at h
    split at h
    · rcases List.mem_cons.1 h with h | h
      · exact .inr (by rw [h]; simp)
      · exact (mem_putM h).imp id (fun h => List.mem_cons_of_mem _ h)
    · split at h
      · rcases List.mem_cons.1 h with h | h
        · exact .inl h
        · exact .inr (List.mem_cons_of_mem _ h)
      · rcases List.mem_cons.1 h with h | h
        · exact .inl h
        · exact .inr h

theorem len_putM (p : Lp) : ∀ A : List Lp, (putM A p).length ≤ A.length + 1
  | [] => by simp [putM]
  | a :: A => by
    unfold putM
    split
    · simp only [List.length_cons]; have := len_putM p A; omega
    · split <;> simp

theorem mayE_alike {a b : Lp} (h : Alike a b) : mayE a = mayE b := by
  obtain ⟨h1, h2, _⟩ := h
  unfold mayE
  rw [h1, h2]

theorem may_bytes {m : Lp} (h : mayE m = 0) : m.key.length ≤ 140737488355328 ∧ m.val.length ≤ 140737488355328 := by
  unfold mayE at h
  split at h
  · cases h
  · split at h
    · cases h
    · omega

theorem Mp.mx_lo {base : Nat} {w : World} {mb : Nat} {v : Value} {G : List Pg} (h : Mp base w mb v G) : ∀ k, MX mb v k → base ≤ k := fun k hk => by
  rcases hk with rfl | e
  · exact h.lo
  · exact (h.own.lt k e).1
theorem Mp.mx_lt {base : Nat} {w : World} {mb : Nat} {v : Value} {G : List Pg} (h : Mp base w mb v G) : ∀ k, MX mb v k → k < w.heap.size := fun k hk => by
  rcases hk with rfl | e
  · exact lt_of_block h.hd
  · exact (h.own.lt k e).2

/-- A map beside a list of the same pairs. -/
structure Fill (base : Nat) (w : World) (mb : Nat) (n : Nat) (la : Option Addr) (lc : Nat) (A : List Lp) (v : Value) (G : List Pg) (W : World) : Prop where
  below : Below base w W
  mp : Mp base W mb v G
  fit : Fit G
  may : ∀ m ∈ (mls G).flatten, mayE m = 0
  len : (mls G).flatten.length ≤ n
  list : RdG W ⟨la, lc, A⟩
  off : OffG (MX mb v) ⟨la, lc, A⟩
  same : A.map lg = (mls G).flatten.map lg

theorem Fill.old {base : Nat} {w : World} {mb n : Nat} {la : Option Addr} {lc : Nat} {A : List Lp} {v : Value} {G : List Pg} {W W' : World} (h : Fill base w mb n la lc A v G W) (hb : Below W.heap.size W W') : Fill base w mb n la lc A v G W' :=
  ⟨h.below.trans (hb.mono h.mp.base_le), h.mp.old hb, h.fit, h.may, h.len, h.list.old hb, h.off, h.same⟩
theorem Fill.more {base : Nat} {w : World} {mb n n' : Nat} {la : Option Addr} {lc : Nat} {A : List Lp} {v : Value} {G : List Pg} {W : World} (h : Fill base w mb n la lc A v G W) (hn : n ≤ n') : Fill base w mb n' la lc A v G W :=
  ⟨h.below, h.mp, h.fit, h.may, Nat.le_trans h.len hn, h.list, h.off, h.same⟩

theorem Fill.lenA {base : Nat} {w : World} {mb n : Nat} {la : Option Addr} {lc : Nat} {A : List Lp} {v : Value} {G : List Pg} {W : World} (h : Fill base w mb n la lc A v G W) : A.length ≤ n := by
  have h1 := congrArg List.length h.same
  simp only [List.length_map] at h1
  have := h.len
  omega

/-- The map has turned; the list is as it was. -/
theorem Fill.turned {base : Nat} {w : World} {mb n : Nat} {la : Option Addr} {lc : Nat} {A : List Lp} {v v' : Value} {G G' : List Pg} {L : List Lp} {W W1 : World} (h : Fill base w mb n la lc A v G W) (ht : Turned base mb v G L W W1 v' G') :
    Below base w W1 ∧ RdG W1 ⟨la, lc, A⟩ ∧ OffG (MX mb v') ⟨la, lc, A⟩ := by
  refine ⟨h.below.trans (ht.keep.below h.mp.base_le h.mp.mx_lo), h.list.keep ht.keep h.off, ?_⟩
  have h2 : OffG (fun k => W.heap.size ≤ k) ⟨la, lc, A⟩ := h.list.offnew (fun k hk => hk)
  refine (h.off.or h2).mono (fun k hk => ?_)
  rcases hk with e | e
  · exact .inl (.inl e)
  · exact (ht.vnew k e).imp (fun e => .inr e) id

/-- One pair more in both. -/
theorem Fill.put {base : Nat} {w : World} {mb n : Nat} {la : Option Addr} {lc : Nat} {A : List Lp} {v v' : Value} {G G' : List Pg} {W W1 W2 : World} {m m' : Lp} {x : Value} (hbase : base = w.heap.size) (h : Fill base w mb n la lc A v G W) (hm : RdP w m) (hmay : mayE m = 0)
    (hal : Alike m' m) (ht : Turned base mb v G (putM (mls G).flatten m') W W1 v' G') (hx : W2.ownsRow W1.heap.size 31 3 x (putM A m).length ((putM A m).map rowP).flatten) (hb : Below W1.heap.size W1 W2) :
    ∃ xa xc, x = .slice xa (putM A m).length xc ∧ Fill base w mb (n + 1) xa xc (putM A m) v' G' W2 := by
  obtain ⟨xa, xc, hxe⟩ : ∃ ao c, x = .slice ao (putM A m).length c := by
    rcases hx.2 with ⟨rfl, h0⟩ | ⟨g, cap, cur, rfl, _⟩
    · rw [h0]; exact ⟨_, _, rfl⟩
    · exact ⟨_, _, rfl⟩
  subst hxe
  obtain ⟨hbw, hrd, hof⟩ := h.turned ht
  have hmW : RdP W1 m := hm.old (hbase ▸ hbw)
  have hr2 : ∀ y ∈ putM A m, RdP W2 y := fun y hy => by
    rcases mem_putM hy with rfl | hy
    · exact hmW.old hb
    · exact (hrd.2 y hy).old hb
  have hmo : OffP (MX mb v') m := hm.offnew (fun k hk => by have := ht.mp.mx_lo k hk; omega)
  refine ⟨xa, xc, rfl, hbw.trans (hb.mono ht.mp.base_le), ht.mp.old hb, ht.fit, fun y hy => ?_, ?_, Prs.own hx hr2, ⟨fun _ a ha hk => ?_, fun y hy => ?_⟩, ?_⟩
  · rw [ht.flat] at hy
    rcases mem_putM hy with rfl | hy
    · rw [mayE_alike hal]; exact hmay
    · exact h.may y hy
  · rw [ht.flat]
    have := len_putM m' (mls G).flatten
    have := h.len
    omega
  · have h1 := (hx.lt a.block (by rw [show xa = some a from ha]; rfl)).1
    have h2 := ht.mp.mx_lt _ hk
    omega
  · rcases mem_putM hy with rfl | hy
    · exact hmo
    · exact hof.2 y hy
  · rw [ht.flat]
    exact putM_lg (alike_lg hal).symm h.same

/-- A list beside a map that turns. -/
theorem Turned.list {base mb : Nat} {v v' : Value} {G G' : List Pg} {L : List Lp} {W W1 : World} {g : Pg} (ht : Turned base mb v G L W W1 v' G') (h : RdG W g) (ho : OffG (MX mb v) g) : RdG W1 g ∧ OffG (MX mb v') g := by
  refine ⟨h.keep ht.keep ho, ?_⟩
  have h2 : OffG (fun k => W.heap.size ≤ k) g := h.offnew (fun k hk => hk)
  refine (ho.or h2).mono (fun k hk => ?_)
  rcases hk with e | e
  · exact .inl (.inl e)
  · exact (ht.vnew k e).imp (fun e => .inr e) id

/-- Another map beside a map that turns. -/
theorem Turned.other {base mb base2 mb2 : Nat} {v v' v2 : Value} {G G' G2 : List Pg} {L : List Lp} {W W1 : World} (ht : Turned base mb v G L W W1 v' G') (h2 : Mp base2 W mb2 v2 G2) (s1 : ∀ k, MX mb2 v2 k → ¬ MX mb v k) (s2 : Off (MX mb v) G2) :
    Mp base2 W1 mb2 v2 G2 ∧ (∀ k, MX mb2 v2 k → ¬ MX mb v' k) ∧ Off (MX mb v') G2 := by
  refine ⟨h2.keep ht.keep (fun k hk => s1 k hk) s2, fun k hk hX => ?_, fun g hg => (ht.list (h2.each g hg) (s2 g hg)).2⟩
  rcases hX with e | e
  · exact s1 k hk (.inl e)
  · rcases ht.vnew k e with e | e
    · exact s1 k hk (.inr e)
    · have := h2.mx_lt k hk
      omega

/-- Take, as a map's turn. -/
theorem take_turned {base mb : Nat} {v : Value} {G : List Pg} {f t : List UInt8} {W W1 : World} {e : Ending} (hM : Mp base W mb v G) (hF : Fit G) (h : TakeA base mb v G f t W e W1) :
    ∃ (xa : Option Addr) (xc : Nat) (xs : List Lp) (v' : Value) (G' : List Pg), e = .returned (.slice xa xs.length xc) ∧ xs.map lg = ((mls G).flatten.filter fun m => inSpan f t m.key).map lg ∧ RdG W1 ⟨xa, xc, xs⟩ ∧
      Turned base mb v G ((mls G).flatten.filter fun m => !inSpan f t m.key) W W1 v' G' ∧ OffG (MX mb v') ⟨xa, xc, xs⟩ := by
  obtain ⟨xa, xc, xs, he, hlg, hr, -, -, h0, h1⟩ := h
  by_cases hx : xs = []
  · subst hx
    have hb := h0 rfl
    have hf0 : ((mls G).flatten.filter fun m => inSpan f t m.key) = [] := by
      have := hlg.symm
      simpa using this
    have hall : ((mls G).flatten.filter fun m => !inSpan f t m.key) = (mls G).flatten := by
      rw [List.filter_eq_self]
      intro x hx
      have := List.filter_eq_nil_iff.1 hf0 x hx
      simpa using this
    refine ⟨xa, xc, [], v, G, he, hlg, hr, ?_, fun hn => (hn rfl).elim, fun m hm => by cases hm⟩
    rw [hall]
    exact ⟨hM.old hb, hF, rfl, Keep.of_below hb, fun k hk => .inl hk, fun g hg => .inl hg, fun x hx => .inl hx⟩
  · obtain ⟨v', G', ht, ho⟩ := h1 hx
    exact ⟨xa, xc, xs, v', G', he, hlg, hr, ht, ho⟩

theorem total_eq {base : Nat} {w : World} {mb n : Nat} {la : Option Addr} {lc : Nat} {A : List Lp} {v : Value} {G : List Pg} {W : World} (h : Fill base w mb n la lc A v G W) : total G = A.length := by
  have h1 := congrArg List.length h.same
  simp only [List.length_map] at h1
  exact h1.symm
end Go.Proofs.Ytcgnghkjkdkmmaa
