/-
  PAGES: between.
-/
import Derived.Test.YtcgnghkjkdkmmaaGaw
set_option linter.unusedVariables false
namespace Go.Proofs.Ytcgnghkjkdkmmaa
open Go.RowKit Go.Shelf

/-- The page lies in the block of a page of G. -/
def FromG (G : List Pg) (h : Pg) : Prop := (∀ a, h.a = some a → ∃ g ∈ G, ∃ b, g.a = some b ∧ b.block = a.block) ∧ ∀ m ∈ h.M, m ∈ (mls G).flatten

/-- A piece of a page of G. -/
def PieceA (G : List Pg) (L : List Lp) (w : World) (e : Ending) (w' : World) : Prop :=
  ∃ (h : Pg) (n : Nat), n = h.M.length ∧ e = .returned (.slice h.a n h.c) ∧ h.M = L ∧ RdG w h ∧ FromG G h ∧ Below w.heap.size w w'

theorem blk_a {a b : Option Addr} {n c n' c' : Nat} (h : ∀ k, blk (.slice a n c) = some k → blk (.slice b n' c') = some k) : ∀ x, a = some x → ∃ y, b = some y ∧ y.block = x.block := fun x hx => by
  subst hx
  obtain ⟨y, h1, h2⟩ := blk_of (h x.block rfl)
  exact ⟨y, h1, h2⟩

set_option maxHeartbeats 4000000 in
set_option maxRecDepth 100000 in
theorem ahead2_any (x : Value) (G : List Pg) (p i : Nat) (w : World) (hx : Pgs w x G) (hp : p ≤ G.length) (hi : i ≤ (pgAt (mls G) p).length) (hG : ∀ g ∈ G, g.M.length ≤ 1000000) (hl : G.length ≤ 1000000) :
    Calls Try.prog 44 #[x, .agg #[.int .i64 (p : Int), .int .i64 (i : Int)]] w (PieceA G ((pgAt (mls G) p).take i) w) := by
  obtain ⟨ao, c, rfl, hm⟩ := hx.form
  have B0 := (Below.refl w.heap.size w).alloc (Nat.le_refl _) (.cells #[.int .i64 (p : Int), .int .i64 (i : Int)] 67)
  have HB0 := hid B0
  have HX := hid hx
  have HX0 := hid (hx.old B0)
  clear hx B0
  by_cases hpn : p = G.length
  · subst hpn
    have hb : ((G.length : Int) == (G.length : Int)) = true := by simp
    go_enter Try.func44, Try.ntmps44
    go_wp2_with fail
    go_ret
    refine ⟨⟨none, 0, []⟩, 0, rfl, rfl, ?_, Prs.nil w, ⟨fun a ha => (by cases ha), fun m hm => (by cases hm)⟩, HB0.out⟩
    rw [pgAt_ge (by rw [mls_len]; omega), List.take_nil]
  · have hlt : p < G.length := by omega
    have hv : G[p]? = some G[p] := List.getElem?_eq_getElem hlt
    generalize G[p] = g at *
    have hsub : ∀ m ∈ pgAt (mls G) p, m ∈ (mls G).flatten := fun m hm => ML_mem hm
    rw [mls_at hv] at hi hsub ⊢
    have hgl := hG g (List.mem_of_getElem? hv)
    have hgm := List.mem_of_getElem? hv
    obtain ⟨b, off, rfl, d1⟩ := HX0.out.get hv
    rw [Nat.mul_one] at d1
    have hrd : Prs w (.slice g.a g.M.length g.c) g.M := HX.out.at hv
    obtain ⟨ao2, c2, hs2, hr2, hk2⟩ := hrd.1.head (P := Try.prog) 29 31 Try.underlying29 (by kernel_rfl) i (by rw [List.length_map]; omega)
    have hs2' := fun W => hs2 .i64 W
    have HR : Hid (RdG w ⟨ao2, c2, g.M.take i⟩ ∧ FromG G ⟨ao2, c2, g.M.take i⟩) := ⟨⟨by show Rws 3 w (.slice ao2 (g.M.take i).length c2) _; rw [List.length_take, Nat.min_eq_left hi, List.map_take]; exact hr2, fun m hm => hrd.2 m (List.mem_of_mem_take hm)⟩, fun a ha => by
      obtain ⟨y, h1, h2⟩ := blk_a hk2 a ha
      exact ⟨g, hgm, y, h1, h2⟩, fun m hm => hsub m (List.mem_of_mem_take hm)⟩
    have hil : i = (g.M.take i).length := by rw [List.length_take, Nat.min_eq_left hi]
    have hb : ((p : Int) == (G.length : Int)) = false := beq_eq_false_iff_ne.2 (by omega)
    have hb2 : ¬ ((p : Int) = (G.length : Int)) := by omega
    have HIL := hid hil
    clear hs2 hr2 hrd hv hsub hk2 hil
    go_enter Try.func44, Try.ntmps44
    go_wp2_with fail
    go_quiet (fail)
    rename_i nq
    go_wp2_with fail
    go_ret
    exact ⟨⟨ao2, c2, g.M.take i⟩, i, HIL.out, rfl, rfl, HR.out.1, HR.out.2, below_drewN HB0.out _⟩

set_option maxHeartbeats 4000000 in
set_option maxRecDepth 100000 in
theorem behind2_any (x : Value) (G : List Pg) (p i : Nat) (w : World) (hx : Pgs w x G) (hp : p ≤ G.length) (hi : i ≤ (pgAt (mls G) p).length) (hG : ∀ g ∈ G, g.M.length ≤ 1000000) (hl : G.length ≤ 1000000) :
    Calls Try.prog 45 #[x, .agg #[.int .i64 (p : Int), .int .i64 (i : Int)]] w (PieceA G ((pgAt (mls G) p).drop i) w) := by
  obtain ⟨ao, c, rfl, hm⟩ := hx.form
  have B0 := (Below.refl w.heap.size w).alloc (Nat.le_refl _) (.cells #[.int .i64 (p : Int), .int .i64 (i : Int)] 67)
  have HB0 := hid B0
  have HX := hid hx
  have HX0 := hid (hx.old B0)
  clear hx B0
  by_cases hpn : p = G.length
  · subst hpn
    have hb : ((G.length : Int) == (G.length : Int)) = true := by simp
    go_enter Try.func45, Try.ntmps45
    go_wp2_with fail
    go_ret
    refine ⟨⟨none, 0, []⟩, 0, rfl, rfl, ?_, Prs.nil w, ⟨fun a ha => (by cases ha), fun m hm => (by cases hm)⟩, HB0.out⟩
    rw [pgAt_ge (by rw [mls_len]; omega), List.drop_nil]
  · have hlt : p < G.length := by omega
    have hv : G[p]? = some G[p] := List.getElem?_eq_getElem hlt
    generalize G[p] = g at *
    have hsub : ∀ m ∈ pgAt (mls G) p, m ∈ (mls G).flatten := fun m hm => ML_mem hm
    rw [mls_at hv] at hi hsub ⊢
    have hgl := hG g (List.mem_of_getElem? hv)
    have hgm := List.mem_of_getElem? hv
    obtain ⟨b, off, rfl, d1⟩ := HX0.out.get hv
    rw [Nat.mul_one] at d1
    have hrd : Prs w (.slice g.a g.M.length g.c) g.M := HX.out.at hv
    obtain ⟨ao2, c2, hs2, hr2, hk2⟩ := hrd.1.cut (P := Try.prog) (by decide) 29 31 Try.underlying29 (by kernel_rfl) i (by rw [List.length_map]; omega)
    rw [List.length_map] at hs2 hr2 hk2
    have HR : Hid (RdG w ⟨ao2, c2, g.M.drop i⟩ ∧ FromG G ⟨ao2, c2, g.M.drop i⟩) := ⟨⟨by show Rws 3 w (.slice ao2 (g.M.drop i).length c2) _; rw [List.length_drop, List.map_drop]; exact hr2, fun m hm => hrd.2 m (List.mem_of_mem_drop hm)⟩, fun a ha => by
      obtain ⟨y, h1, h2⟩ := blk_a hk2 a ha
      exact ⟨g, hgm, y, h1, h2⟩, fun m hm => hsub m (List.mem_of_mem_drop hm)⟩
    have hb : ((p : Int) == (G.length : Int)) = false := beq_eq_false_iff_ne.2 (by omega)
    have hb2 : ¬ ((p : Int) = (G.length : Int)) := by omega
    have HIL : Hid (g.M.length - i = (g.M.drop i).length) := by show _ = _; rw [List.length_drop]
    clear hr2 hrd hv hsub hk2
    go_enter Try.func45, Try.ntmps45
    go_wp2_with fail
    go_quiet (fail)
    rename_i nq
    go_wp2_with fail
    go_ret
    exact ⟨⟨ao2, c2, g.M.drop i⟩, _, HIL.out, rfl, rfl, HR.out.1, HR.out.2, below_drewN HB0.out _⟩

/-- What between gives: a new list of pieces of G's pages. -/
def BetwA (G : List Pg) (p i p' i' : Nat) (w : World) (e : Ending) (w' : World) : Prop :=
  ∃ (ao : Option Addr) (H : List Pg) (n c : Nat), n = H.length ∧ e = .returned (.slice ao n c) ∧ mls H = betw (mls G) p i p' i' ∧ Pgs w' (.slice ao n c) H ∧ (∀ a, ao = some a → w.heap.size ≤ a.block) ∧ (∀ h ∈ H, FromG G h) ∧ Below w.heap.size w w'

/-- The same, its slice's parts opaque. -/
def PieceB (G : List Pg) (L : List Lp) (w : World) (e : Ending) (w' : World) : Prop :=
  ∃ (k : Option Addr) (n kc : Nat), e = .returned (.slice k n kc) ∧ RdG w ⟨k, kc, L⟩ ∧ FromG G ⟨k, kc, L⟩ ∧ n = L.length ∧ Below w.heap.size w w'
theorem PieceB.of {G : List Pg} {L : List Lp} {w w' : World} {e : Ending} (h : PieceA G L w e w') : PieceB G L w e w' := by
  obtain ⟨⟨a, c, M⟩, n, hn, he, rfl, hr, hf, hb⟩ := h
  exact ⟨a, n, c, he, hr, hf, hn, hb⟩

theorem rws_row {w : World} {b : Nat} {vs : List Value} {t : TypeId} (h : w.heap[b]? = some (.cells vs.toArray t (0, 0))) (hu : ∀ u ∈ vs, u.oneCell' = true) (hl : vs.length ≤ maxLen) : Rws 1 w (.slice (some ⟨b, 0, none⟩) vs.length vs.length) (vs.map fun u => [u]) := by
  refine ⟨some ⟨b, 0, none⟩, vs.length, by rw [List.length_map], by simp, hl, (fun h => by cases h), (fun q hq => by
    obtain ⟨v, hv, rfl⟩ := List.mem_map.1 hq
    exact ⟨rfl, fun v' hv' => by simp at hv'; subst hv'; exact hu _ hv⟩), fun a ha j v hv => ?_⟩
  cases ha
  rw [flat_one] at hv
  rw [WideShapes.add_plain, Nat.zero_add, cell_of_row _ b j vs.toArray t (0, 0) h]
  simpa using hv

theorem Rws.mid {P : Program} {size : Nat} {w : World} {ao : Option Addr} {n c : Nat} {L : List (List Value)} (h : Rws size w (.slice ao n c) L) (hsz : 0 < size) (t e : TypeId) (ht : P.underlying t = some (.slice e)) (hinfo : (P.info? e).map (fun i => i.size) = some size) (lo hi : Nat) (h1 : lo ≤ hi) (h2 : hi ≤ L.length) (hc : L.length ≤ c) :
    ∃ ao2 m c2, m = hi - lo ∧ (∀ W, (Instr.slice t (.slice ao n c) (some (.int .i64 (lo : Int))) (some (.int .i64 (hi : Int))) none).run P W = .ok (.slice ao2 m c2) W) ∧ Rws size w (.slice ao2 m c2) ((L.take hi).drop lo) := by
  obtain ⟨i0, hi0, hz1⟩ : ∃ i, P.info? e = some i ∧ i.size = size := by
    cases hq : P.info? e with
    | none => rw [hq] at hinfo; cases hinfo
    | some i => rw [hq] at hinfo; exact ⟨i, rfl, by simpa using hinfo⟩
  obtain ⟨ao2, c2, hs, hr, -⟩ := (h.take hi h2).cut (P := P) hsz t e ht hinfo lo (by rw [List.length_take]; omega)
  rw [List.length_take, Nat.min_eq_left h2] at hs hr
  have ht' : P.underlying t = some (.slice (P.elem t)) := by simp [Program.elem, ht]
  have he : P.elem t = e := by simp [Program.elem, ht]
  have hss : ∀ W, (sizeOf e).run P W = .ok size W := fun W => by simp [sizeOf, typeInfo, hi0, hz1]
  refine ⟨ao2, _, c2, rfl, fun W => ?_, hr⟩
  have q := hs W
  rw [run_slice_l W t _ _ _ ht' .i64 _ (by omega) (by omega), he, hss] at q
  rw [run_slice_lh W t _ _ _ ht' .i64 .i64 _ _ (by omega) (by omega) (by omega), he, hss]
  simp only [Result.andThen, Int.toNat_natCast] at q ⊢
  exact q

theorem al2 (w : World) (A B : Obj) : ((w.alloc A).alloc B).heap[w.heap.size]? = some A := (Below.heap_alloc _ _ _ (by simp)).trans (heap_alloc_new _ _)
theorem al3 (w : World) (A B C : Obj) : (((w.alloc A).alloc B).alloc C).heap[w.heap.size]? = some A ∧ (((w.alloc A).alloc B).alloc C).heap[w.heap.size + 1]? = some B ∧ (((w.alloc A).alloc B).alloc C).heap[w.heap.size + 1 + 1]? = some C :=
  ⟨(Below.heap_alloc _ _ _ (by simp; omega)).trans (al2 w A B), (Below.heap_alloc _ _ _ (by simp)).trans (heap_alloc2_new _ _ _), by have := heap_alloc_new ((w.alloc A).alloc B) C; simpa using this⟩

theorem FromG.self {G : List Pg} {g : Pg} (h : g ∈ G) : FromG G g := ⟨fun a ha => ⟨g, h, a, ha, rfl⟩, fun m hm => by
  unfold mls
  exact List.mem_flatten.2 ⟨g.M, List.mem_map.2 ⟨g, h, rfl⟩, hm⟩⟩

/-- What the last Concat gives. -/
def ConcG (G : List Pg) (p i p' i' : Nat) (V : World) (e : Ending) (w' : World) : Prop :=
  ∃ (ao : Option Addr) (H : List Pg) (n c : Nat), n = H.length ∧ e = .returned (.slice ao n c) ∧ mls H = betw (mls G) p i p' i' ∧ Pgs w' (.slice ao n c) H ∧ (∀ a, ao = some a → V.heap.size ≤ a.block) ∧ (∀ h ∈ H, FromG G h) ∧ Below V.heap.size V w'

theorem concL_any {G : List Pg} {p i p' i' : Nat} {x : Value} {V : World} {b1 b2 b3 n1 n2 mn mc c1 c2 : Nat} {k1 k2 mo : Option Addr} {t1 t2 t3 : TypeId} (hx : Pgs V x G) (hlt : p < p') (hl : G.length ≤ 10000)
    (h1 : V.heap[b1]? = some (.cells #[.slice k1 n1 c1] t1 (0, 0))) (h2 : V.heap[b2]? = some (.cells #[.slice k2 n2 c2] t2 (0, 0))) (h3 : V.heap[b3]? = some (.cells #[.slice (some ⟨b1, 0, none⟩) 1 1, .slice mo mn mc, .slice (some ⟨b2, 0, none⟩) 1 1] t3 (0, 0)))
    (hn1 : n1 = ((pgAt (mls G) p).drop i).length) (hn2 : n2 = ((pgAt (mls G) p').take i').length) (r1 : RdG V ⟨k1, c1, (pgAt (mls G) p).drop i⟩) (r2 : RdG V ⟨k2, c2, (pgAt (mls G) p').take i'⟩)
    (f1 : FromG G ⟨k1, c1, (pgAt (mls G) p).drop i⟩) (f2 : FromG G ⟨k2, c2, (pgAt (mls G) p').take i'⟩) (hm : Rws 1 V (.slice mo mn mc) (((G.map rowG).take p').drop (p + 1))) :
    Calls Try.prog 50 #[.slice (some ⟨b3, 0, none⟩) 3 3] V (ConcG G p i p' i' V) := by
  have hmid : ((G.map rowG).take p').drop (p + 1) = ((G.take p').drop (p + 1)).map rowG := by rw [← List.map_take, ← List.map_drop]
  obtain ⟨H, hH⟩ : ∃ H, H = (⟨k1, c1, (pgAt (mls G) p).drop i⟩ : Pg) :: (G.take p').drop (p + 1) ++ [⟨k2, c2, (pgAt (mls G) p').take i'⟩] := ⟨_, rfl⟩
  have hHl : H.length ≤ 20000 := by rw [hH]; simp; omega
  have hcat : catA [(Value.slice (some ⟨b1, 0, none⟩) 1 1, [rowG ⟨k1, c1, (pgAt (mls G) p).drop i⟩]), (Value.slice mo mn mc, ((G.map rowG).take p').drop (p + 1)), (Value.slice (some ⟨b2, 0, none⟩) 1 1, [rowG ⟨k2, c2, (pgAt (mls G) p').take i'⟩])] = H.map rowG := by
    rw [hmid, hH]; unfold catA; simp
  have hC : Cats 1 V (.slice (some ⟨b3, 0, none⟩) 3 3) [(Value.slice (some ⟨b1, 0, none⟩) 1 1, [rowG ⟨k1, c1, (pgAt (mls G) p).drop i⟩]), (Value.slice mo mn mc, ((G.map rowG).take p').drop (p + 1)), (Value.slice (some ⟨b2, 0, none⟩) 1 1, [rowG ⟨k2, c2, (pgAt (mls G) p').take i'⟩])] := by
    refine ⟨rws_row (vs := [.slice (some ⟨b1, 0, none⟩) 1 1, .slice mo mn mc, .slice (some ⟨b2, 0, none⟩) 1 1]) h3 (fun u hu => by simp at hu; rcases hu with rfl | rfl | rfl <;> rfl) (by unfold maxLen; simp), fun y hy => ?_⟩
    simp only [List.mem_cons, List.not_mem_nil, or_false] at hy
    rcases hy with rfl | rfl | rfl
    · exact rws_row (vs := [.slice k1 ((pgAt (mls G) p).drop i).length c1]) (by rw [← hn1]; exact h1) (fun u hu => by simp at hu; subst hu; rfl) (by unfold maxLen; simp)
    · exact hm
    · exact rws_row (vs := [.slice k2 ((pgAt (mls G) p').take i').length c2]) (by rw [← hn2]; exact h2) (fun u hu => by simp at hu; subst hu; rfl) (by unfold maxLen; simp)
  refine (concatG_any _ _ V hC (by rw [hcat, List.length_map]; omega) (by simp)).mono ?_
  rintro e w' ⟨v, rfl, ho, hb⟩
  rw [hcat] at ho
  have hr := Rws.own ho (wideG H)
  obtain ⟨ao, c, rfl, -, -⟩ := hr.form
  rw [List.length_map] at *
  refine ⟨ao, H, _, c, rfl, rfl, ?_, ⟨hr, fun h hh => ?_⟩, fun a ha => ?_, fun h hh => ?_, hb⟩
  · rw [hH]
    unfold betw mls
    rw [if_neg (by omega)]
    simp [List.map_take, List.map_drop]
  · rw [hH] at hh
    simp only [List.cons_append, List.mem_cons, List.mem_append, List.not_mem_nil, or_false] at hh
    rcases hh with rfl | hh | rfl
    · exact r1.old hb
    · exact (hx.2 h (List.mem_of_mem_take (List.mem_of_mem_drop hh))).old hb
    · exact r2.old hb
  · subst ha
    exact (ho.lt a.block rfl).1
  · rw [hH] at hh
    simp only [List.cons_append, List.mem_cons, List.mem_append, List.not_mem_nil, or_false] at hh
    rcases hh with rfl | hh | rfl
    · exact f1
    · exact FromG.self (List.mem_of_mem_take (List.mem_of_mem_drop hh))
    · exact f2

set_option maxHeartbeats 8000000 in
set_option maxRecDepth 100000 in
theorem between_any (x : Value) (G : List Pg) (p i p' i' : Nat) (w : World) (hx : Pgs w x G) (hp : p ≤ p') (hp' : p' ≤ G.length) (he : p = p' → i ≤ i') (hi : i ≤ (pgAt (mls G) p).length) (hi' : i' ≤ (pgAt (mls G) p').length) (hG : ∀ g ∈ G, g.M.length ≤ 1000000) (hl : G.length ≤ 10000) :
    Calls Try.prog 38 #[x, .agg #[.int .i64 (p : Int), .int .i64 (i : Int)], .agg #[.int .i64 (p' : Int), .int .i64 (i' : Int)]] w (BetwA G p i p' i' w) := by
  obtain ⟨xo, xc, rfl, hm⟩ := hx.form
  have HX := hid hx
  have HG := hid hG
  have HBW : Hid (Below w.heap.size w ((w.alloc (.cells #[.int .i64 (p : Int), .int .i64 (i : Int)] 67)).alloc (.cells #[.int .i64 (p' : Int), .int .i64 (i' : Int)] 67))) := ((Below.refl _ w).alloc (Nat.le_refl _) _).alloc (by simp) _
  have H4 : Hid (((w.alloc (.cells #[.int .i64 (p : Int), .int .i64 (i : Int)] 67)).alloc (.cells #[.int .i64 (p' : Int), .int .i64 (i' : Int)] 67)).heap[w.heap.size]? = some (.cells #[.int .i64 (p : Int), .int .i64 (i : Int)] 67 (0, 0))) := (Below.heap_alloc _ _ _ (by simp)).trans (heap_alloc_new _ _)
  have H5 : Hid (((w.alloc (.cells #[.int .i64 (p : Int), .int .i64 (i : Int)] 67)).alloc (.cells #[.int .i64 (p' : Int), .int .i64 (i' : Int)] 67)).heap[w.heap.size + 1]? = some (.cells #[.int .i64 (p' : Int), .int .i64 (i' : Int)] 67 (0, 0))) := heap_alloc2_new _ _ _
  clear hx hG
  by_cases hpp : p = p'
  · subst hpp
    have hii := he rfl
    have hb : ((p : Int) == (p : Int)) = true := by simp
    go_enter Try.func38, Try.ntmps38
    go_upto_region 2 with fail
    generalize (w.alloc (.cells #[.int .i64 (p : Int), .int .i64 (i : Int)] 67)).alloc (.cells #[.int .i64 (p : Int), .int .i64 (i' : Int)] 67) = w3 at *
    have HS : Hid (∀ W, Below w3.heap.size w3 W → (Hid (Below w3.heap.size w3 W) ∧ W.cell? ⟨w.heap.size, 0, none⟩ = some (.int .i64 (p : Int)) ∧ W.cell? ⟨w.heap.size, 1, none⟩ = some (.int .i64 (i : Int)) ∧ W.cell? ⟨w.heap.size + 1, 0, none⟩ = some (.int .i64 (p : Int)) ∧ W.cell? ⟨w.heap.size + 1, 1, none⟩ = some (.int .i64 (i' : Int)))) := fun W h => by
      obtain ⟨a1, a2, -, -⟩ := two_cells ((h.block _ (lt_of_block H4.out)).trans H4.out)
      obtain ⟨b1, b2, -, -⟩ := two_cells ((h.block _ (lt_of_block H5.out)).trans H5.out)
      exact ⟨h, a1, a2, b1, b2⟩
    have CA : Hid (∀ W, Below w3.heap.size w3 W → Calls Try.prog 44 #[.slice xo G.length xc, .agg #[.int .i64 (p : Int), .int .i64 (i' : Int)]] W (fun e w' => ∃ (h : Pg) (n : Nat) (k : Option Addr) (kc : Nat), n = h.M.length ∧ h.a = k ∧ h.c = kc ∧ e = .returned (.slice k n kc) ∧ h.M = (pgAt (mls G) p).take i' ∧ RdG W h ∧ FromG G h ∧ Below W.heap.size W w' ∧
        ∃ ao2 c2, (∀ W, (Instr.slice 29 (.slice k n kc) (some (.int .i64 (i : Int))) none none).run Try.prog W = .ok (.slice ao2 (n - i) c2) W) ∧ RdG W ⟨ao2, c2, h.M.drop i⟩ ∧ FromG G ⟨ao2, c2, h.M.drop i⟩)) := fun W h => by
      have hb3 : Below w.heap.size w W := HBW.out.trans (h.mono HBW.out.size)
      refine (ahead2_any _ G p i' W (HX.out.old hb3) hp' hi' HG.out (by omega)).mono ?_
      rintro e w' ⟨h, n, hn, rfl, hM, hr, hf, hbb⟩
      have hn' : n = i' := by rw [hn, hM, List.length_take, Nat.min_eq_left hi']
      refine ⟨h, n, h.a, h.c, hn, rfl, rfl, rfl, hM, hr, hf, hbb, ?_⟩
      obtain ⟨ao2, c2, hs2, hr2, hk2⟩ := (show Prs W (.slice h.a h.M.length h.c) h.M from hr).1.cut (P := Try.prog) (by decide) 29 31 Try.underlying29 (by kernel_rfl) i (by rw [List.length_map]; omega)
      rw [List.length_map] at hs2 hr2 hk2
      refine ⟨ao2, c2, by rw [hn]; exact hs2, ⟨by show Rws 3 W (.slice ao2 (h.M.drop i).length c2) _; rw [List.length_drop, List.map_drop]; exact hr2, fun m hm => hr.2 m (List.mem_of_mem_drop hm)⟩, fun a ha => ?_, fun m hm => hf.2 m (List.mem_of_mem_drop hm)⟩
      obtain ⟨y, h1, h2⟩ := blk_a hk2 a ha
      obtain ⟨g, hg, b, h3, h4⟩ := hf.1 y h1
      exact ⟨g, hg, b, h3, h4.trans h2⟩
    have hb0 : Below w3.heap.size w3 w3 := Below.refl _ _
    obtain ⟨-, c1, c2, c3, c4⟩ := HS.out _ hb0
    clear hb0
    go_region_held3 (fun W => Hid (Below w3.heap.size w3 W) ∧ W.cell? ⟨w.heap.size, 0, none⟩ = some (.int .i64 (p : Int)) ∧ W.cell? ⟨w.heap.size, 1, none⟩ = some (.int .i64 (i : Int)) ∧ W.cell? ⟨w.heap.size + 1, 0, none⟩ = some (.int .i64 (p : Int)) ∧ W.cell? ⟨w.heap.size + 1, 1, none⟩ = some (.int .i64 (i' : Int)))
      (first | (go_split_ands; first | exact HS.out _ (Hid.out (by assumption)) | exact HS.out _ (Below.drew (Below.refl _ _)) | exact HS.out _ (chain (by assumption : Hid (Below _ w3 _)).out (by assumption)) | exact HS.out _ ((by assumption : Hid (Below _ w3 _)).out.alloc (by assumption : Hid (Below _ w3 _)).out.size _)) | go_keep)
      (first
        | (go_at_call 44; go_split_ands; have HPRE := (by assumption : Hid (Below _ w3 _)); refine (CA.out _ HPRE.out).mono ?_; rintro e wa ⟨h, n, k, kc, hn, hk, hkc, rfl, hM, hr, hf, hbb, ao2, c2', hs2, hr2, hf2⟩; have HBA := hid (chain HPRE.out hbb); clear HPRE; have HN := hid hn; have HM := hid hM; have HR2 := hid hr2; have HF2 := hid hf2; have HBB := hid hbb; clear hn hk hkc hM hr hf hr2 hf2 hbb))
    all_goals (go_wp2_with fail)
    go_ret
    have hni : n - i = (h.M.drop i).length := by rw [List.length_drop, HN.out]
    refine ⟨some ⟨wa.heap.size, 0, none⟩, [⟨ao2, c2', h.M.drop i⟩], 1, 1, rfl, rfl, ?_, ⟨?_, ?_⟩, fun a ha => ?_, fun q hq => ?_, ?_⟩
    · unfold betw
      rw [if_pos rfl, ← HM.out]
      rfl
    · refine rws_row (vs := [.slice ao2 (h.M.drop i).length c2']) (t := 29) ?_ (fun u hu => by simp at hu; subst hu; rfl) (by unfold maxLen; simp)
      rw [← hni]
      exact heap_alloc_new _ _
    · intro q hq
      simp only [List.mem_cons, List.not_mem_nil, or_false] at hq
      subst hq
      exact (HR2.out.old HBB.out).old ((Below.refl _ _).alloc (Nat.le_refl _) _)
    · cases ha
      exact Nat.le_trans HBW.out.size HBA.out.size
    · simp only [List.mem_cons, List.not_mem_nil, or_false] at hq
      subst hq
      exact HF2.out
    · exact HBW.out.trans ((HBA.out.alloc HBA.out.size _).mono HBW.out.size)
  · have hlt : p < p' := by omega
    have hb : ((p : Int) == (p' : Int)) = false := beq_eq_false_iff_ne.2 (by omega)
    have hb2 : ¬ ((p : Int) = (p' : Int)) := by omega
    have hw : IntKind.i64.wrap ((p : Int) + 1) = (p : Int) + 1 := by rw [IntKind.wrap_i64]; omega
    go_enter Try.func38, Try.ntmps38
    go_upto_region 3 with fail
    generalize (w.alloc (.cells #[.int .i64 (p : Int), .int .i64 (i : Int)] 67)).alloc (.cells #[.int .i64 (p' : Int), .int .i64 (i' : Int)] 67) = w3 at *
    have HS : Hid (∀ W, Below w3.heap.size w3 W → (Hid (Below w3.heap.size w3 W) ∧ W.cell? ⟨w.heap.size, 0, none⟩ = some (.int .i64 (p : Int)) ∧ W.cell? ⟨w.heap.size, 1, none⟩ = some (.int .i64 (i : Int)) ∧ W.cell? ⟨w.heap.size + 1, 0, none⟩ = some (.int .i64 (p' : Int)) ∧ W.cell? ⟨w.heap.size + 1, 1, none⟩ = some (.int .i64 (i' : Int)))) := fun W h => by
      obtain ⟨a1, a2, -, -⟩ := two_cells ((h.block _ (lt_of_block H4.out)).trans H4.out)
      obtain ⟨b1, b2, -, -⟩ := two_cells ((h.block _ (lt_of_block H5.out)).trans H5.out)
      exact ⟨h, a1, a2, b1, b2⟩
    have CA : Hid (∀ W, Below w3.heap.size w3 W → Calls Try.prog 44 #[.slice xo G.length xc, .agg #[.int .i64 (p' : Int), .int .i64 (i' : Int)]] W (PieceB G ((pgAt (mls G) p').take i') W)) := fun W h =>
      (ahead2_any _ G p' i' W (HX.out.old (HBW.out.trans (h.mono HBW.out.size))) hp' hi' HG.out (by omega)).mono fun e w' hh => PieceB.of hh
    have CB : Hid (∀ W, Below w3.heap.size w3 W → Calls Try.prog 45 #[.slice xo G.length xc, .agg #[.int .i64 (p : Int), .int .i64 (i : Int)]] W (PieceB G ((pgAt (mls G) p).drop i) W)) := fun W h =>
      (behind2_any _ G p i W (HX.out.old (HBW.out.trans (h.mono HBW.out.size))) (by omega) hi HG.out (by omega)).mono fun e w' hh => PieceB.of hh
    have hb0 : Below w3.heap.size w3 w3 := Below.refl _ _
    obtain ⟨-, c1, c2, c3, c4⟩ := HS.out _ hb0
    clear hb0
    obtain ⟨mo, mn, mc, hmn, hmid, hmr⟩ := (show Rws 1 w (.slice xo G.length xc) (G.map rowG) from HX.out.1).mid (P := Try.prog) (by decide) 63 29 Try.underlying63 (by kernel_rfl) (p + 1) p' (by omega) (by rw [List.length_map]; omega) (by
      obtain ⟨ao', c', h1, h2, h3⟩ := (show Rws 1 w (.slice xo G.length xc) (G.map rowG) from HX.out.1).form
      simp only [Value.slice.injEq, List.length_map] at h1
      rw [h1.2.2, List.length_map]; rw [List.length_map] at h2; exact h2)
    have e9 : (((p + 1 : Nat)) : Int) = (p : Int) + 1 := by omega
    rw [e9] at hmid
    have HMR := hid hmr
    clear hmr hmn e9
    go_region_held3 (fun W => Hid (Below w3.heap.size w3 W) ∧ W.cell? ⟨w.heap.size, 0, none⟩ = some (.int .i64 (p : Int)) ∧ W.cell? ⟨w.heap.size, 1, none⟩ = some (.int .i64 (i : Int)) ∧ W.cell? ⟨w.heap.size + 1, 0, none⟩ = some (.int .i64 (p' : Int)) ∧ W.cell? ⟨w.heap.size + 1, 1, none⟩ = some (.int .i64 (i' : Int)))
      (first | (go_split_ands; first | exact HS.out _ (Hid.out (by assumption)) | exact HS.out _ (Below.drew (Below.refl _ _)) | exact HS.out _ (chain (by assumption : Hid (Below _ w3 _)).out (by assumption)) | exact HS.out _ ((by assumption : Hid (Below _ w3 _)).out.alloc (by assumption : Hid (Below _ w3 _)).out.size _)) | go_keep)
      (first
        | (go_at_call 45; go_split_ands; have HPRE := (by assumption : Hid (Below _ w3 _)); refine (CB.out _ HPRE.out).mono ?_; rintro e wx ⟨kb, nb, cb, rfl, hr, hf, hn, hbb⟩; have HBX := hid (chain HPRE.out hbb); clear HPRE; have HRX := hid (hr.old hbb); have HFX := hid hf; have HNX := hid hn; clear hr hf hn hbb)
        | (go_at_call 44; go_split_ands; have HPRE := (by assumption : Hid (Below _ w3 _)); refine (CA.out _ HPRE.out).mono ?_; rintro e wy ⟨ka, na, ca, rfl, hr, hf, hn, hbb⟩; have HBY := hid (chain HPRE.out hbb); clear HPRE; have HRY := hid (hr.old hbb); have HFY := hid hf; have HNY := hid hn; have HRX2 : Hid (RdG wy ⟨kb, cb, (pgAt (mls G) p).drop i⟩) := (by first | exact HRX.out.old hbb | exact (HRX.out.old ((Below.refl _ _).alloc (Nat.le_refl _) _)).old hbb); (try have HQ22 : Hid (wy.heap[wx.heap.size]? = some (.cells #[.slice kb nb cb] 29 (0, 0))) := (hbb.block wx.heap.size (show wx.heap.size < (wx.alloc _).heap.size by simp)).trans (heap_alloc_new wx _)); clear hr hf hn hbb)
        | (go_at_call 50; go_split_ands; first
            | (have HPRE := (by assumption : Hid (Below _ w3 _)); have HBYY := fun (A B : Obj) => (((Below.refl wy.heap.size wy).alloc (Nat.le_refl _) A).alloc (by simp) B : Below wy.heap.size wy ((wy.alloc A).alloc B)); refine (concL_any (HX.out.old (HBW.out.trans (HPRE.out.mono HBW.out.size))) hlt hl (((HBYY _ _).block _ (lt_of_block HQ22.out)).trans HQ22.out) (al2 wy _ _) (heap_alloc2_new wy _ _) HNX.out HNY.out (HRX2.out.old (HBYY _ _)) (HRY.out.old (HBYY _ _)) HFX.out HFY.out (HMR.out.old (HBW.out.trans (HPRE.out.mono HBW.out.size)))).mono ?_; rintro e wz ⟨zo, H, zn, zc, hzn, rfl, hm1, hm2, hm3, hm4, hbb⟩; have HBZ := hid (chain HPRE.out hbb); have HZN := hid hzn; have HM1 := hid hm1; have HM2 := hid hm2; have HM4 := hid hm4; have HM3 : Hid (∀ a, zo = some a → wy.heap.size ≤ a.block) := (fun a ha => Nat.le_trans (HBYY _ _).size (hm3 a ha)); clear HPRE hbb hzn hm1 hm2 hm3 hm4 HBYY)
            | (have HPRE := (by assumption : Hid (Below _ w3 _)); have HBYY := fun (A B C : Obj) => ((((Below.refl wy.heap.size wy).alloc (Nat.le_refl _) A).alloc (by simp) B).alloc (by simp; omega) C : Below wy.heap.size wy (((wy.alloc A).alloc B).alloc C)); refine (concL_any (HX.out.old (HBW.out.trans (HPRE.out.mono HBW.out.size))) hlt hl ((al3 wy _ _ _).1) ((al3 wy _ _ _).2.1) ((al3 wy _ _ _).2.2) HNX.out HNY.out (HRX2.out.old (HBYY _ _ _)) (HRY.out.old (HBYY _ _ _)) HFX.out HFY.out (HMR.out.old (HBW.out.trans (HPRE.out.mono HBW.out.size)))).mono ?_; rintro e wz ⟨zo, H, zn, zc, hzn, rfl, hm1, hm2, hm3, hm4, hbb⟩; have HBZ := hid (chain HPRE.out hbb); have HZN := hid hzn; have HM1 := hid hm1; have HM2 := hid hm2; have HM4 := hid hm4; have HM3 : Hid (∀ a, zo = some a → wy.heap.size ≤ a.block) := (fun a ha => Nat.le_trans (HBYY _ _ _).size (hm3 a ha)); clear HPRE hbb hzn hm1 hm2 hm3 hm4 HBYY)
            | (have HPRE := (by assumption : Hid (Below _ w3 _)); have HBYY := fun (A B C : Obj) => ((((Below.refl wy.heap.size wy).alloc (Nat.le_refl _) A).alloc (by simp) B).alloc (by simp; omega) C : Below wy.heap.size wy (((wy.alloc A).alloc B).alloc C)); refine (concL_any (HX.out.old (HBW.out.trans (HPRE.out.mono HBW.out.size))) hlt hl ((al3 wy _ _ _).2.1) ((al3 wy _ _ _).1) ((al3 wy _ _ _).2.2) HNX.out HNY.out (HRX2.out.old (HBYY _ _ _)) (HRY.out.old (HBYY _ _ _)) HFX.out HFY.out (HMR.out.old (HBW.out.trans (HPRE.out.mono HBW.out.size)))).mono ?_; rintro e wz ⟨zo, H, zn, zc, hzn, rfl, hm1, hm2, hm3, hm4, hbb⟩; have HBZ := hid (chain HPRE.out hbb); have HZN := hid hzn; have HM1 := hid hm1; have HM2 := hid hm2; have HM4 := hid hm4; have HM3 : Hid (∀ a, zo = some a → wy.heap.size ≤ a.block) := (fun a ha => Nat.le_trans (HBYY _ _ _).size (hm3 a ha)); clear HPRE hbb hzn hm1 hm2 hm3 hm4 HBYY)))
    all_goals (go_wp2_with fail)
    all_goals go_ret
    all_goals exact ⟨zo, H, zn, zc, HZN.out, rfl, HM1.out, HM2.out, fun a ha => Nat.le_trans (Nat.le_trans HBW.out.size HBY.out.size) (HM3.out a ha), HM4.out, HBW.out.trans (HBZ.out.mono HBW.out.size)⟩
end Go.Proofs.Ytcgnghkjkdkmmaa
