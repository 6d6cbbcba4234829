/-
  PAGES: a map beside a list, through each kind of call.
-/
import Derived.Test.YtcgnghkjkdkmmaaGor
import Derived.Test.YtcgnghkjkdkmmaaGtl
import Derived.Test.YtcgnghkjkdkmmaaGcp
import Derived.Test.YtcgnghkjkdkmmaaGdw
import Derived.Test.YtcgnghkjkdkmmaaGfk
import Derived.Test.YtcgnghkjkdkmmaaGg
import Derived.Test.YtcgnghkjkdkmmaaPagesTwiceWalk
set_option linter.unusedVariables false
namespace Go.Proofs.Ytcgnghkjkdkmmaa
open Go.RowKit Go.Shelf

theorem own_mono {w : World} {base base' : Nat} {e : TypeId} {size : Nat} {v : Value} {n : Nat} {xs : List Value} (h : w.ownsRow base' e size v n xs) (hb : base ≤ base') : w.ownsRow base e size v n xs :=
  ⟨h.1, h.2.imp id fun ⟨g, cap, cur, a, b, c⟩ => ⟨g, cap, cur, a, Nat.le_trans hb b, c⟩⟩

theorem Mp.lower {base base' : Nat} {w : World} {mb : Nat} {v : Value} {G : List Pg} (h : Mp base' w mb v G) (hb : base ≤ base') : Mp base w mb v G := ⟨Nat.le_trans hb h.lo, h.hd, own_mono h.own hb, h.ne, h.each, h.off⟩

/-- A map, and a list beside it. -/
structure Side (base : Nat) (w : World) (mb : Nat) (la : Option Addr) (lc : Nat) (A : List Lp) (v : Value) (G : List Pg) (W : World) : Prop where
  below : Below base w W
  mp : Mp base W mb v G
  fit : Fit G
  list : RdG W ⟨la, lc, A⟩
  off : OffG (MX mb v) ⟨la, lc, A⟩

section
variable {base : Nat} {w : World} {mb n n' : Nat} {la : Option Addr} {lc : Nat} {A B : List Lp} {v v' : Value} {G G' : List Pg} {W W1 W2 W3 : World} {L : List Lp}

theorem Fill.side (h : Fill base w mb n la lc A v G W) : Side base w mb la lc A v G W := ⟨h.below, h.mp, h.fit, h.list, h.off⟩
theorem Side.fill (h : Side base w mb la lc A v G W) (h1 : ∀ m ∈ (mls G).flatten, mayE m = 0) (h2 : (mls G).flatten.length ≤ n) (h3 : A.map lg = (mls G).flatten.map lg) : Fill base w mb n la lc A v G W :=
  ⟨h.below, h.mp, h.fit, h1, h2, h.list, h.off, h3⟩
theorem Side.old (h : Side base w mb la lc A v G W) (hb : Below W.heap.size W W1) : Side base w mb la lc A v G W1 := ⟨h.below.trans (hb.mono h.mp.base_le), h.mp.old hb, h.fit, h.list.old hb, h.off⟩
theorem Fill.turn (h : Fill base w mb n la lc A v G W) (ht : Turned base mb v G L W W1 v' G') : Side base w mb la lc A v' G' W1 := by
  obtain ⟨a, b, c⟩ := h.turned ht
  exact ⟨a, ht.mp, ht.fit, b, c⟩

/-- Another list in its place. -/
theorem Side.made {x : Value} (h : Side base w mb la lc A v G W) (hx : W1.ownsRow W.heap.size 31 3 x B.length (B.map rowP).flatten) (hb : Below W.heap.size W W1)
    (hB : ∀ y ∈ B, y ∈ A ∨ (RdP W y ∧ OffP (MX mb v) y)) : ∃ xa xc, x = .slice xa B.length xc ∧ Side base w mb xa xc B v G W1 := by
  obtain ⟨xa, xc, rfl⟩ := own_lenG hx
  have h1 := h.old hb
  refine ⟨xa, xc, rfl, h1.below, h1.mp, h1.fit, Prs.own hx (fun y hy => ?_), fun _ a ha hk => ?_, fun y hy => ?_⟩
  · rcases hB y hy with hy | hy
    · exact h1.list.2 y hy
    · exact hy.1.old hb
  · have e1 := (hx.lt a.block (by rw [show xa = some a from ha]; rfl)).1
    have e2 := h.mp.mx_lt _ hk
    omega
  · rcases hB y hy with hy | hy
    · exact h.off.2 y hy
    · exact hy.2

/-- What came in reads as it did, and lies in none of the map's blocks. -/
theorem Side.came {wc : World} {m : Lp} (hbase : base = wc.heap.size) (h : Side base wc mb la lc A v G W) (hm : RdP wc m) : RdP W m ∧ OffP (MX mb v) m :=
  ⟨hm.old (hbase ▸ h.below), hm.offnew (fun k hk => by have := h.mp.mx_lo k hk; omega)⟩

/-- Blocks that lie neither in what was there nor in what came. -/
theorem Turned.free {wc : World} {X : Nat → Prop} (ht : Turned base mb v G L W W1 v' G') (hM : Mp base wc mb v G) (hX : ∀ k, X k → wc.heap.size ≤ k ∧ k < W.heap.size) : (∀ k, MX mb v' k → ¬ X k) ∧ Off X G' := by
  refine ⟨fun k hk hx => ?_, ht.offnew (fun k hk => (hX k hk).2) (fun g hg => (hM.each g hg).offnew (fun k hk => (hX k hk).1))⟩
  have h1 := hX k hx
  rcases hk with e | e
  · have := hM.mx_lt k (.inl e); omega
  · rcases ht.vnew k e with e | e
    · have := hM.mx_lt k (.inr e); omega
    · omega

/-- A pair is copied and put; then the copy is spoilt. -/
theorem Fill.spoilt {wc : World} {X : Nat → Prop} (h : Fill base w mb n la lc A v G wc) (hb : Below wc.heap.size wc W) (ht : Turned base mb v G L W W1 v' G') (q : Keep X W1 W3) (hX : ∀ k, X k → wc.heap.size ≤ k ∧ k < W.heap.size) :
    Side base w mb la lc A v' G' W3 ∧ Keep (MX mb v) wc W3 := by
  have k0 : Keep (fun k => MX mb v k ∨ wc.heap.size ≤ k) wc W1 := ((Keep.of_below hb).trans (ht.keep.mono (fun k _ hk => .inl hk)))
  have k1 : Keep (fun k => MX mb v k ∨ wc.heap.size ≤ k) wc W3 := k0.trans (q.mono (fun k _ hk => .inr (hX k hk).1))
  have k2 : Keep (MX mb v) wc W3 := k1.mono (fun k hk h => h.elim id (fun h => by omega))
  have hf := ht.free (X := X) h.mp hX
  have h2 := (h.old hb).turn ht
  exact ⟨⟨h.below.trans (k2.below h.mp.base_le h.mp.mx_lo), ht.mp.keep q hf.1 hf.2, ht.fit, h.list.keep k2 h.off, h2.off⟩, k2⟩

/-- A fork goes its own way. -/
theorem Fill.forked {mb2 : Nat} {y : Value} (h : Fill base w mb n la lc A v G W) (hM2 : Mp W.heap.size W1 mb2 y G) (hb : Below W.heap.size W W1) (ht : Turned base mb v G L W1 W2 v' G') : Fill base w mb2 n la lc A y G W2 := by
  have h2 := (h.old hb).turn ht
  have ho := ht.other hM2 (fun k hk hX => by have := hM2.mx_lo k hk; have := h.mp.mx_lt k hX; omega) h.mp.off
  exact ⟨h2.below, ho.1.lower h.mp.base_le, h.fit, h.may, h.len, h2.list, h.list.offnew hM2.mx_lo, h.same⟩

/-- Drop, as a map's turn. -/
theorem drop_turned {key : List UInt8} {e : Ending} (hM : Mp base W mb v G) (hF : Fit G) (h : DropA base mb v G key W e W1) :
    ∃ v' G', e = .returned (.bool ((mls G).flatten.any fun m => m.key == key)) ∧ Turned base mb v G (dropM key (mls G).flatten) W W1 v' G' := by
  obtain ⟨b, hb, he, h0, h1⟩ := h
  cases b with
  | false =>
    have hb' := h0 rfl
    have hk : dropM key (mls G).flatten = (mls G).flatten := drop_keep fun x hx e => by
      have := List.any_eq_false.1 hb.symm x hx
      simp [e] at this
    refine ⟨v, G, by rw [he, hb], ?_⟩
    rw [hk]
    exact ⟨hM.old hb', hF, rfl, Keep.of_below hb', fun k hk => .inl hk, fun g hg => .inl hg, fun x hx => .inl hx⟩
  | true =>
    obtain ⟨v', G', ht⟩ := h1 rfl
    exact ⟨v', G', by rw [he, hb], ht⟩

/-- Behind Drop and Cut. -/
theorem Fill.dropped {key : List UInt8} {x : Value} (h : Fill base w mb n la lc A v G W) (ht : Turned base mb v G (dropM key (mls G).flatten) W W1 v' G')
    (hx : W2.ownsRow W1.heap.size 31 3 x (A.filter fun m => !(m.key == key)).length ((A.filter fun m => !(m.key == key)).map rowP).flatten) (hb : Below W1.heap.size W1 W2) :
    ∃ xa xc, x = .slice xa (A.filter fun m => !(m.key == key)).length xc ∧ Fill base w mb n xa xc (A.filter fun m => !(m.key == key)) v' G' W2 := by
  obtain ⟨xa, xc, he, hs⟩ := (h.turn ht).made hx hb (fun y hy => .inl (List.mem_filter.1 hy).1)
  refine ⟨xa, xc, he, hs.fill (fun m hm => ?_) ?_ ?_⟩
  · rw [ht.flat] at hm
    exact h.may m (List.mem_filter.1 hm).1
  · rw [ht.flat]
    exact Nat.le_trans (List.length_filter_le _ _) h.len
  · rw [ht.flat]
    exact drop_lg h.same

theorem own_keep {X : Nat → Prop} {b : Nat} {e : TypeId} {size : Nat} {x : Value} {k : Nat} {xs : List Value} (h : W.ownsRow b e size x k xs) (hk : Keep X W W1) (hx : ∀ r, x.ownBlock = some r → ¬ X r) : W1.ownsRow b e size x k xs := by
  refine ⟨h.1, h.2.imp id fun ⟨g, cap, cur, a, b, c, d⟩ => ⟨g, cap, cur, a, b, ?_, d⟩⟩
  rw [hk.block g (lt_of_block c) (hx g (by rw [a]; rfl))]
  exact c

/-- A pair of the call's own, beside a map that turns. -/
theorem Mine.turned {b : Nat} {m : Lp} (h : Mine b W m) (ht : Turned base mb v G L W W1 v' G') (hb : ∀ k, MX mb v k → k < b) : Mine b W1 m :=
  ⟨own_keep h.k ht.keep (fun r e hk => by have := hb r hk; have := (h.k.lt r e).1; omega), own_keep h.v ht.keep (fun r e hk => by have := hb r hk; have := (h.v.lt r e).1; omega), h.apart⟩
end

/-- What Find tells, as a pair and a Boolean. -/
def zeroP : Lp := ⟨none, 0, none, 0, [], [], 0⟩
theorem find_form (M : List Lp) (key : List UInt8) : ∃ (q : Lp) (b : Bool), findR M key = .tuple #[pv q, .bool b] ∧ b = (M.any fun m => m.key == key) ∧ (b = true → q ∈ M ∧ q.key = key) ∧ (b = false → q = zeroP) := by
  unfold findR
  cases h : M.find? (fun m => m.key == key) with
  | none =>
    refine ⟨zeroP, false, rfl, ?_, (fun e => by cases e), fun _ => rfl⟩
    symm
    rw [List.any_eq_false]
    intro x hx
    simpa using List.find?_eq_none.1 h x hx
  | some q =>
    have h1 := List.find?_some h
    have h2 := List.mem_of_find?_eq_some h
    refine ⟨q, true, rfl, ?_, (fun _ => ⟨h2, by simpa using h1⟩), fun e => by cases e⟩
    symm
    rw [List.any_eq_true]
    exact ⟨q, h2, h1⟩

theorem any_lg {A B : List Lp} {key : List UInt8} (h : A.map lg = B.map lg) : (A.any fun m => m.key == key) = B.any fun m => m.key == key := by
  have e : ∀ L : List Lp, (L.any fun m => m.key == key) = (L.map lg).any fun y => y.1 == key := fun L => by
    rw [List.any_map]; rfl
  rw [e, e, h]

theorem find_get {A B : List Lp} {key : List UInt8} {q m m' : Lp} {b : Bool} (h : A.map lg = B.map lg) (hs : Srt B) (hb : b = A.any fun m => m.key == key) (hq : b = true → q ∈ A ∧ q.key = key) (hm : m ∈ B) (hk : m.key = key) (hal : Alike m' m) : b = true ∧ sameP m' q = true := by
  have e : b = true := by
    rw [hb, any_lg h, List.any_eq_true]
    exact ⟨m, hm, by simpa using hk⟩
  obtain ⟨h1, h2⟩ := hq e
  have h3 : lg q ∈ B.map lg := by rw [← h]; exact List.mem_map.2 ⟨q, h1, rfl⟩
  obtain ⟨x, hx, ex⟩ := List.mem_map.1 h3
  have : x = m := srt_same hs hx hm (by rw [(lg_fields ex).1, h2, hk])
  subst this
  exact ⟨e, lg_same (by rw [alike_lg hal]; exact ex)⟩

theorem find_not {A B : List Lp} {key : List UInt8} {b : Bool} (h : A.map lg = B.map lg) (hb : b = A.any fun m => m.key == key) (hn : ∀ m ∈ B, m.key ≠ key) : b = false := by
  rw [hb, any_lg h, List.any_eq_false]
  intro x hx
  simpa using hn x hx

/-- What Get gives, beside what Find tells. -/
theorem get_form {G : List Pg} {A : List Lp} {key : List UInt8} {w w' : World} {e : Ending} {q : Lp} {b : Bool} (h : GetA G key w e w') (hlg : A.map lg = (mls G).flatten.map lg) (hs : Srt (mls G).flatten) (hb : b = A.any fun m => m.key == key) (hq : b = true → q ∈ A ∧ q.key = key) (hz : b = false → q = zeroP) :
    ∃ p : Lp, e = .returned (.tuple #[.agg #[.slice p.ka p.key.length p.kc, .slice p.va p.val.length p.vc, .int .i64 p.ver], .bool b]) ∧ RdP w' p ∧ Below w.heap.size w w' ∧ sameP p q = true := by
  rcases h with ⟨m, m', hm, hk, hal, hmi, rfl, hb'⟩ | ⟨hn, rfl, hb'⟩
  · obtain ⟨rfl, h2⟩ := find_get hlg hs hb hq hm hk hal
    exact ⟨m', rfl, hmi.rd, hb', h2⟩
  · have e := find_not hlg hb hn
    rw [hz e, e]
    exact ⟨zeroP, rfl, ⟨Rd.nil _, Rd.nil _⟩, hb', rfl⟩

theorem six_cells {W : World} {b : Nat} {x0 x1 x2 x3 x4 x5 : Value} {t : TypeId} (h : W.heap[b]? = some (.cells #[x0, x1, x2, x3, x4, x5] t (0, 0))) :
    W.cell? ⟨b, 0, none⟩ = some x0 ∧ W.cell? ⟨b, 1, none⟩ = some x1 ∧ W.cell? ⟨b, 2, none⟩ = some x2 ∧ W.cell? ⟨b, 3, none⟩ = some x3 ∧ W.cell? ⟨b, 4, none⟩ = some x4 ∧ W.cell? ⟨b, 5, none⟩ = some x5 := by
  simp [World.cell?, h]

theorem pages_few {base : Nat} {w : World} {mb n : Nat} {la : Option Addr} {lc : Nat} {A : List Lp} {v : Value} {G : List Pg} {W : World} (h : Fill base w mb n la lc A v G W) : G.length ≤ n := by
  have h1 := len_flat (mls G) (fun g hg => (h.fit.ok g hg).1)
  rw [mls_len] at h1
  have := h.len
  omega

/-- A list, without the keys of some others. -/
def cutL (A P : List Lp) : List Lp := A.filter fun m => !(P.any fun p => m.key == p.key)

theorem cutL_nil (A : List Lp) : cutL A [] = A := by simp [cutL]
theorem cutL_next {A P : List Lp} {j : Nat} {p : Lp} (h : P[j]? = some p) : (cutL A (P.take j)).filter (fun m => !(m.key == p.key)) = cutL A (P.take (j + 1)) := by
  unfold cutL
  rw [List.filter_filter, List.take_add_one, h]
  congr 1
  funext m
  simp only [Option.toList_some, List.any_append, List.any_cons, List.any_nil, Bool.or_false, Bool.not_or]
  rw [Bool.and_comm]
theorem cutL_part (A : List Lp) (f t : List UInt8) : cutL A (A.filter fun m => inSpan f t m.key) = A.filter fun m => !inSpan f t m.key := by
  unfold cutL
  apply List.filter_congr
  intro m hm
  congr 1
  cases h : inSpan f t m.key with
  | true =>
    rw [List.any_eq_true]
    exact ⟨m, List.mem_filter.2 ⟨hm, h⟩, by simp⟩
  | false =>
    rw [List.any_eq_false]
    intro p hp e
    have e1 : m.key = p.key := by simpa using e
    have := (List.mem_filter.1 hp).2
    rw [← e1, h] at this
    cases this

theorem gone_lg {A B : List Lp} {f t : List UInt8} (h : A.map lg = B.map lg) : (A.filter fun m => !inSpan f t m.key).map lg = (B.filter fun m => !inSpan f t m.key).map lg := by
  have e : ∀ L : List Lp, (L.filter fun m => !inSpan f t m.key).map lg = (L.map lg).filter fun y => !inSpan f t y.1 := fun L => by
    rw [List.filter_map]; rfl
  rw [e, e, h]

theorem cut_len (A P : List Lp) : (cutL A P).length ≤ A.length := List.length_filter_le _ _
theorem cut_mem {A P : List Lp} {m : Lp} (h : m ∈ cutL A P) : m ∈ A := (List.mem_filter.1 h).1
end Go.Proofs.Ytcgnghkjkdkmmaa
