/-
  LAYER 12: what came in, opened: numbers, columns, tables, indexes, catalogs.
-/
import Derived.Test.YtafcbelkhhjcoaaSqa
import Derived.Test.YtafcbelkhhjcoaaLaw
import Derived.Deep.Strs
import Derived.Deep.Slices
set_option linter.unusedVariables false
set_option linter.unusedSimpArgs false
set_option maxRecDepth 100000
namespace Go.Proofs.Ytafcbelkhhjcoaa
open Go.RowKit Go.ChangeShapes Go.WideShapes Go.ChangeAt Go.Deep

section
variable {H : Type} {enc : TypeId × Value → H} {W : World}

theorem mem_weightsAll' {P : Program} {e : TypeId} {d : DataW H} : ∀ {l : List (DataW H)}, d ∈ l → ∀ n ∈ d.weights P e, n ∈ DataW.weightsAll P e l
  | a :: l, h, n, hn => by
    rw [DataW.weightsAll, List.mem_append]
    rcases List.mem_cons.1 h with rfl | h
    · exact .inl hn
    · exact .inr (mem_weightsAll' h n hn)

theorem list_in {α : Type} [Inhabited α] (R : List Value → α → Prop) (B : α → Nat → Prop) (n : Nat) (t e : TypeId) (ht : Try.prog.underlying t = some (.slice e)) (hcv : Try.prog.cellsOf e = n) (hn : 0 < n) (hbv : 0 < Try.prog.bytesOf e)
    (one : ∀ (m : Nat) (cs : List Value) (y : DataW H × List MemPlace), DataW.trod enc Try.prog W 0 (fun _ => true) true m e cs = some y → ∃ a, R cs a ∧ (cs.length = n ∧ ∀ u ∈ cs, u.oneCell' = true) ∧ ∀ K, (∀ k ∈ y.1.weights Try.prog e, k ≤ K) → B a K)
    {f0 : Nat} {cs : List Value} {y : DataW H × List MemPlace} (hf : DataW.trod enc Try.prog W 0 (fun _ => true) true f0 t cs = some y) :
    ∃ (x : Value) (M : List (List Value)) (l : List α), cs = [x] ∧ M.length = l.length ∧ Rws n W x M ∧ (∀ (i : Nat) r a, M[i]? = some r → l[i]? = some a → R r a) ∧ (l ≠ [] → ∀ k, blk x = some k → k < W.heap.size) ∧ x.oneCell' = true ∧
      ∀ K, (∀ k ∈ y.1.weights Try.prog t, k ≤ K) → (∀ a ∈ l, B a K) ∧ l.length ≤ K := by
  rcases open_slice ht hf with ⟨hcs, hx⟩ | ⟨x, len, cap, m, n', D, Pl, hcs, _, hl, hm, hmm, hx, hcell⟩
  · exact ⟨.slice none 0 0, [], [], hcs, rfl, Rws.nil n W, fun i r a h => by simp at h, fun h => absurd rfl h, rfl, fun K _ => ⟨fun e he => (by cases he), Nat.zero_le _⟩⟩
  · rw [hcv] at hcell
    have key : ∀ i, i < len → ∃ v : List Value × α, (∀ j u, v.1[j]? = some u → W.cell? (x.add (i * n + j)) = some u) ∧ R v.1 v.2 ∧ (v.1.length = n ∧ ∀ u ∈ v.1, u.oneCell' = true) ∧ ∀ K, (∀ k ∈ (D i).weights Try.prog e, k ≤ K) → B v.2 K := by
      intro i hi
      obtain ⟨cs', h1, h2⟩ := hcell i (by rw [hmm]; simp; omega)
      obtain ⟨a, hr, hw, hb⟩ := one _ _ _ h2
      obtain ⟨_, hl2, hc⟩ := World.cells?_some h1
      refine ⟨(cs', a), fun j u hu => ?_, hr, hw, hb⟩
      have hu' : cs'[j]? = some u := hu
      have hj : j < cs'.length := (List.getElem?_eq_some_iff.1 hu').1
      have := hc j (by omega)
      rw [add_add] at this
      rw [this, ← hu', List.getElem?_eq_getElem hj]
    obtain ⟨f, hf2⟩ := choose_lt key
    have hlen1 : ((List.range len).map fun i => (f i).1).length = len := by simp
    have hlen2 : ((List.range len).map fun i => (f i).2).length = len := by simp
    have hw : Wide n ((List.range len).map fun i => (f i).1) := fun r hr => by
      obtain ⟨i, hi, rfl⟩ := List.mem_map.1 hr
      exact (hf2 i (List.mem_range.1 hi)).2.2.1
    refine ⟨.slice (some x) len cap, (List.range len).map fun i => (f i).1, (List.range len).map fun i => (f i).2, hcs, by rw [hlen1, hlen2], ⟨some x, cap, by rw [hlen1], by rw [hlen1]; exact hl, hm, (fun h => by cases h), hw, fun a ha j u hu => ?_⟩, fun i r a hr ha => ?_, fun h0 k hk => ?_, rfl, fun K hK => ?_⟩
    · cases ha
      have hjl := (List.getElem?_eq_some_iff.1 hu).1
      rw [hw.len, hlen1] at hjl
      have hk : j / n < len := Nat.div_lt_of_lt_mul (by rw [Nat.mul_comm]; exact hjl)
      have h1 : ((List.range len).map fun i => (f i).1)[j / n]? = some (f (j / n)).1 := by
        rw [List.getElem?_map, List.getElem?_range hk]; rfl
      have hl9 := (hf2 (j / n) hk).2.2.1.1
      have h2 : (f (j / n)).1[j % n]? = some ((f (j / n)).1[j % n]'(by rw [hl9]; exact Nat.mod_lt _ hn)) := List.getElem?_eq_getElem _
      have h3 := hw.at h1 h2
      have e9 : j / n * n + j % n = j := by rw [Nat.mul_comm]; exact Nat.div_add_mod j n
      rw [e9, hu] at h3
      have h4 := (hf2 (j / n) hk).1 (j % n) u (by rw [h2]; exact h3.symm)
      rw [e9] at h4
      exact h4
    · have hi : i < len := by have := (List.getElem?_eq_some_iff.1 hr).1; rwa [hlen1] at this
      rw [List.getElem?_map, List.getElem?_range hi] at hr ha
      cases hr; cases ha
      exact (hf2 i hi).2.1
    · cases hk
      have h0l : 0 < len := by
        rcases Nat.eq_zero_or_pos len with e0 | e0
        · subst e0; exact absurd rfl h0
        · exact e0
      obtain ⟨q1, q2, q3, -⟩ := hf2 0 h0l
      have h5 : (f 0).1[0]? = some ((f 0).1[0]'(by rw [q3.1]; exact hn)) := List.getElem?_eq_getElem _
      have h6 := World.block_lt_of_cell? W _ (q1 0 _ h5)
      simpa [Addr.add] using h6
    · have e9 : y.1 = .slice ((List.range len).map D) ((List.range (m - len)).map fun j => D (len + j)) := congrArg Prod.fst hx
      rw [e9] at hK
      refine ⟨fun o ho => ?_, ?_⟩
      · obtain ⟨i, hi, rfl⟩ := List.mem_map.1 ho
        have hil := List.mem_range.1 hi
        refine (hf2 i hil).2.2.2 K fun k hk => hK k ?_
        simp only [DataW.weights, ht, List.mem_cons, List.mem_append]
        exact .inr (.inl (mem_weightsAll' (List.mem_map.2 ⟨i, hi, rfl⟩) k hk))
      · have h2 := hK _ (by simp only [DataW.weights, ht]; exact List.mem_cons_self)
        simp only [List.length_map, List.length_range] at h2
        rw [List.length_map, List.length_range]
        have h3 : len + (m - len) ≤ (len + (m - len)) * Try.prog.bytesOf e := Nat.le_mul_of_pos_right _ hbv
        omega
theorem rws_map {α : Type} {n : Nat} {x : Value} {M : List (List Value)} {l : List α} (row : α → List Value) (h : Rws n W x M) (hl : M.length = l.length) (hr : ∀ (i : Nat) r a, M[i]? = some r → l[i]? = some a → r = row a) : Rws n W x (l.map row) := by
  have hM : M = l.map row := by
    apply List.ext_getElem?
    intro i
    rcases Nat.lt_or_ge i l.length with hi | hi
    · have a1 : M[i]? = some (M[i]'(by omega)) := List.getElem?_eq_getElem (by omega)
      have a2 : l[i]? = some l[i] := List.getElem?_eq_getElem hi
      rw [List.getElem?_map, a2, a1, hr i _ _ a1 a2]; rfl
    · rw [List.getElem?_eq_none (by omega), List.getElem?_eq_none (by rw [List.length_map]; omega)]
  exact hM ▸ h

def Low (W : World) (k : Nat) : Prop := k < W.heap.size
theorem i64_in {i : Int} (h : (Lit.int .i64 i).wf = true) : i64 i := by
  have := bounds_i64 h
  exact ⟨by omega, by omega⟩
theorem zs_in {f : Nat} {cs : List Value} {y : DataW H × List MemPlace} (hf : DataW.trod enc Try.prog W 0 (fun _ => true) true f 31 cs = some y) :
    ∃ x l, cs = [x] ∧ ZsN (Low W) W x l ∧ x.oneCell' = true ∧ (∀ z ∈ l, i64 z) ∧ ∀ K, (∀ k ∈ y.1.weights Try.prog 31, k ≤ K) → l.length ≤ K := by
  obtain ⟨x, M, l, h1, h2, h3, h4, h5, h6, h7⟩ := list_in (enc := enc) (W := W) (fun r (z : Int) => r = zRow z ∧ i64 z) (fun _ _ => True) 1 31 3 Try.underlying31 (by kernel_rfl) (by decide) (by decide +kernel) (fun m cs y h => by
    obtain ⟨i, rfl, -, hw⟩ := DataW.trod_int Try.underlying3 h
    exact ⟨i, ⟨rfl, i64_in hw⟩, ⟨rfl, fun u hu => by simp at hu; subst hu; rfl⟩, fun _ _ => trivial⟩) hf
  refine ⟨x, l, h1, ⟨rws_map zRow h3 h2 (fun i r a p q => (h4 i r a p q).1), h5⟩, h6, fun z hz => ?_, fun K hK => (h7 K hK).2⟩
  obtain ⟨i, hi, rfl⟩ := List.getElem_of_mem hz
  exact (h4 i (M[i]'(by omega)) _ (List.getElem?_eq_getElem _) (List.getElem?_eq_getElem hi)).2

/-- What the parts of a struct are (their cells as they stand). -/
theorem part {m : Nat} {t : TypeId} {k o : Nat} {cs cs' : List Value} {y : DataW H × List MemPlace} (hc : Try.prog.cellsOf t = k) (h : DataW.trod enc Try.prog W 0 (fun _ => true) true m t ((cs.drop o).take (Try.prog.cellsOf t)) = some y) (he : (cs.drop o).take k = cs') :
    DataW.trod enc Try.prog W 0 (fun _ => true) true m t cs' = some y := by rw [← he, ← hc]; exact h
theorem col_in {m : Nat} {cs : List Value} {y : DataW H × List MemPlace} (h : DataW.trod enc Try.prog W 0 (fun _ => true) true m 123 cs = some y) :
    ∃ c : Col, (cs = colRow c ∧ i64 c.kind) ∧ (cs.length = 3 ∧ ∀ u ∈ cs, u.oneCell' = true) ∧ ∀ K, (∀ k ∈ y.1.weights Try.prog 123, k ≤ K) → c.name.length ≤ K := by
  have hcv : Try.prog.cellsOf 123 = 3 := by kernel_rfl
  obtain ⟨xs, n', rfl, rfl, hlen, hxl, hfd⟩ := DataW.trod_struct Try.underlying123 h
  rw [hcv] at hlen
  match cs, hlen, xs, hxl with
  | [c0, c1, c2], _, [y0, y1, y2], _ =>
    have t0 := part (k := 1) (t := 9) (cs' := [c0]) (by kernel_rfl) (hfd 0 _ rfl) rfl
    have t1 := part (k := 1) (t := 3) (cs' := [c1]) (by kernel_rfl) (hfd 1 _ rfl) rfl
    have t2 := part (k := 1) (t := 4) (cs' := [c2]) (by kernel_rfl) (hfd 2 _ rfl) rfl
    obtain ⟨s, e0, f0, hs⟩ := DataW.trod_string Try.underlying9 t0
    obtain ⟨i, e1, f1, hi⟩ := DataW.trod_int Try.underlying3 t1
    obtain ⟨b, e2, f2⟩ := DataW.trod_bool Try.underlying4 t2
    cases e0; cases e1; cases e2
    refine ⟨⟨s.data.toList, i, b⟩, ⟨rfl, i64_in hi⟩, ⟨rfl, fun u hu => by simp only [List.mem_cons, List.not_mem_nil, or_false] at hu; rcases hu with rfl | rfl | rfl <;> rfl⟩, fun K hK => ?_⟩
    refine hK _ ?_
    simp only [DataW.weights, Try.underlying123]
    refine DataW.weights_mem_each (j := 0) rfl rfl _ ?_
    rw [f0]
    simp only [DataW.weights]
    exact List.mem_cons_self
theorem cls_in {f : Nat} {cs : List Value} {y : DataW H × List MemPlace} (hf : DataW.trod enc Try.prog W 0 (fun _ => true) true f 30 cs = some y) :
    ∃ x l, cs = [x] ∧ ClsN (Low W) W x l ∧ x.oneCell' = true ∧ ∀ K, (∀ k ∈ y.1.weights Try.prog 30, k ≤ K) → (K ≤ 140737488355328 → (∀ c ∈ l, nmW c.name ∧ i64 c.kind)) ∧ l.length ≤ K := by
  letI : Inhabited Col := ⟨⟨[], 0, false⟩⟩
  obtain ⟨x, M, l, h1, h2, h3, h4, h5, h6, h7⟩ := list_in (enc := enc) (W := W) (fun r (c : Col) => r = colRow c ∧ i64 c.kind) (fun c K => c.name.length ≤ K) 3 30 123 Try.underlying30 (by kernel_rfl) (by decide) (by decide +kernel) (fun m cs y h => col_in h) hf
  refine ⟨x, l, h1, ⟨rws_map colRow h3 h2 (fun i r a p q => (h4 i r a p q).1), h5⟩, h6, fun K hK => ⟨fun hK2 c hc => ⟨Nat.le_trans ((h7 K hK).1 c hc) hK2, ?_⟩, (h7 K hK).2⟩⟩
  obtain ⟨i, hi, rfl⟩ := List.getElem_of_mem hc
  exact (h4 i (M[i]'(by omega)) _ (List.getElem?_eq_getElem _) (List.getElem?_eq_getElem hi)).2
theorem tab_in {m : Nat} {cs : List Value} {y : DataW H × List MemPlace} (h : DataW.trod enc Try.prog W 0 (fun _ => true) true m 33 cs = some y) :
    ∃ t : Tab, (TabN (Low W) W cs t) ∧ (cs.length = 4 ∧ ∀ u ∈ cs, u.oneCell' = true) ∧ ∀ K, (∀ k ∈ y.1.weights Try.prog 33, k ≤ K) → (K ≤ 140737488355328 → t.W) := by
  have hcv : Try.prog.cellsOf 33 = 4 := by kernel_rfl
  obtain ⟨xs, n', rfl, rfl, hlen, hxl, hfd⟩ := DataW.trod_struct Try.underlying33 h
  rw [hcv] at hlen
  match cs, hlen, xs, hxl with
  | [c0, c1, c2, c3], _, [y0, y1, y2, y3], _ =>
    have t0 := part (k := 1) (t := 3) (cs' := [c0]) (by kernel_rfl) (hfd 0 _ rfl) rfl
    have t1 := part (k := 1) (t := 9) (cs' := [c1]) (by kernel_rfl) (hfd 1 _ rfl) rfl
    have t2 := part (k := 1) (t := 30) (cs' := [c2]) (by kernel_rfl) (hfd 2 _ rfl) rfl
    have t3 := part (k := 1) (t := 31) (cs' := [c3]) (by kernel_rfl) (hfd 3 _ rfl) rfl
    obtain ⟨i0, e0, f0, g0⟩ := DataW.trod_int Try.underlying3 t0
    obtain ⟨s1, e1, f1, g1⟩ := DataW.trod_string Try.underlying9 t1
    obtain ⟨x2, l2, e2, r2, o2, k2⟩ := cls_in t2
    obtain ⟨x3, l3, e3, r3, o3, q3, k3⟩ := zs_in t3
    cases e0; cases e1; cases e2; cases e3
    refine ⟨⟨i0, s1.data.toList, l2, l3⟩, ⟨_, _, rfl, r2, r3, o2, o3⟩, ⟨rfl, fun u hu => by simp only [List.mem_cons, List.not_mem_nil, or_false] at hu; rcases hu with rfl | rfl | rfl | rfl <;> first | rfl | assumption⟩, fun K hK hK2 => ?_⟩
    have w1 : s1.data.toList.length ≤ K := hK _ (by simp only [DataW.weights, Try.underlying33]; refine DataW.weights_mem_each (j := 1) rfl rfl _ ?_; rw [f1]; simp only [DataW.weights]; exact List.mem_cons_self)
    have w2 := k2 K (fun k9 h9 => hK _ (by simp only [DataW.weights, Try.underlying33]; exact DataW.weights_mem_each (j := 2) rfl rfl _ h9))
    have w3 := k3 K (fun k9 h9 => hK _ (by simp only [DataW.weights, Try.underlying33]; exact DataW.weights_mem_each (j := 3) rfl rfl _ h9))
    exact ⟨i64_in g0, Nat.le_trans w1 hK2, w2.1 hK2, q3, Nat.le_trans w2.2 hK2, Nat.le_trans w3 hK2⟩
theorem idx_in {m : Nat} {cs : List Value} {y : DataW H × List MemPlace} (h : DataW.trod enc Try.prog W 0 (fun _ => true) true m 37 cs = some y) :
    ∃ t : Idx, (IdxN (Low W) W cs t) ∧ (cs.length = 7 ∧ ∀ u ∈ cs, u.oneCell' = true) ∧ ∀ K, (∀ k ∈ y.1.weights Try.prog 37, k ≤ K) → (K ≤ 140737488355328 → t.W) := by
  have hcv : Try.prog.cellsOf 37 = 7 := by kernel_rfl
  obtain ⟨xs, n', rfl, rfl, hlen, hxl, hfd⟩ := DataW.trod_struct Try.underlying37 h
  rw [hcv] at hlen
  match cs, hlen, xs, hxl with
  | [c0, c1, c2, c3, c4, c5, c6], _, [y0, y1, y2, y3, y4, y5, y6], _ =>
    have t0 := part (k := 1) (t := 3) (cs' := [c0]) (by kernel_rfl) (hfd 0 _ rfl) rfl
    have t1 := part (k := 1) (t := 3) (cs' := [c1]) (by kernel_rfl) (hfd 1 _ rfl) rfl
    have t2 := part (k := 1) (t := 9) (cs' := [c2]) (by kernel_rfl) (hfd 2 _ rfl) rfl
    have t3 := part (k := 1) (t := 31) (cs' := [c3]) (by kernel_rfl) (hfd 3 _ rfl) rfl
    have t4 := part (k := 1) (t := 4) (cs' := [c4]) (by kernel_rfl) (hfd 4 _ rfl) rfl
    have t5 := part (k := 1) (t := 3) (cs' := [c5]) (by kernel_rfl) (hfd 5 _ rfl) rfl
    have t6 := part (k := 1) (t := 4) (cs' := [c6]) (by kernel_rfl) (hfd 6 _ rfl) rfl
    obtain ⟨i0, e0, f0, g0⟩ := DataW.trod_int Try.underlying3 t0
    obtain ⟨i1, e1, f1, g1⟩ := DataW.trod_int Try.underlying3 t1
    obtain ⟨s2, e2, f2, g2⟩ := DataW.trod_string Try.underlying9 t2
    obtain ⟨x3, l3, e3, r3, o3, q3, k3⟩ := zs_in t3
    obtain ⟨b4, e4, f4⟩ := DataW.trod_bool Try.underlying4 t4
    obtain ⟨i5, e5, f5, g5⟩ := DataW.trod_int Try.underlying3 t5
    obtain ⟨b6, e6, f6⟩ := DataW.trod_bool Try.underlying4 t6
    cases e0; cases e1; cases e2; cases e3; cases e4; cases e5; cases e6
    refine ⟨⟨i0, i1, s2.data.toList, l3, b4, i5, b6⟩, ⟨_, rfl, r3, o3⟩, ⟨rfl, fun u hu => by simp only [List.mem_cons, List.not_mem_nil, or_false] at hu; rcases hu with rfl | rfl | rfl | rfl | rfl | rfl | rfl <;> first | rfl | assumption⟩, fun K hK hK2 => ?_⟩
    have w2 : s2.data.toList.length ≤ K := hK _ (by simp only [DataW.weights, Try.underlying37]; refine DataW.weights_mem_each (j := 2) rfl rfl _ ?_; rw [f2]; simp only [DataW.weights]; exact List.mem_cons_self)
    have w3 := k3 K (fun k9 h9 => hK _ (by simp only [DataW.weights, Try.underlying37]; exact DataW.weights_mem_each (j := 3) rfl rfl _ h9))
    exact ⟨i64_in g0, i64_in g1, Nat.le_trans w2 hK2, q3, i64_in g5, Nat.le_trans w3 hK2⟩
theorem tabs_in {f : Nat} {cs : List Value} {y : DataW H × List MemPlace} (hf : DataW.trod enc Try.prog W 0 (fun _ => true) true f 22 cs = some y) :
    ∃ x l, cs = [x] ∧ LstN (TabN (Low W)) 4 (Low W) W x l ∧ x.oneCell' = true ∧ ∀ K, (∀ k ∈ y.1.weights Try.prog 22, k ≤ K) → (K ≤ 140737488355328 → (∀ t ∈ l, t.W)) ∧ l.length ≤ K := by
  letI : Inhabited Tab := ⟨⟨0, [], [], []⟩⟩
  obtain ⟨x, M, l, h1, h2, h3, h4, h5, h6, h7⟩ := list_in (enc := enc) (W := W) (fun r (c : Tab) => TabN (Low W) W r c) (fun c K => K ≤ 140737488355328 → c.W) 4 22 33 Try.underlying22 (by kernel_rfl) (by decide) (by decide +kernel) (fun m cs y h => tab_in h) hf
  exact ⟨x, l, h1, ⟨M, h2, h3, h4, h5⟩, h6, fun K hK => ⟨fun hK2 c hc => (h7 K hK).1 c hc hK2, (h7 K hK).2⟩⟩
theorem idxs_in {f : Nat} {cs : List Value} {y : DataW H × List MemPlace} (hf : DataW.trod enc Try.prog W 0 (fun _ => true) true f 23 cs = some y) :
    ∃ x l, cs = [x] ∧ LstN (IdxN (Low W)) 7 (Low W) W x l ∧ x.oneCell' = true ∧ ∀ K, (∀ k ∈ y.1.weights Try.prog 23, k ≤ K) → (K ≤ 140737488355328 → (∀ t ∈ l, t.W)) ∧ l.length ≤ K := by
  letI : Inhabited Idx := ⟨⟨0, 0, [], [], false, 0, false⟩⟩
  obtain ⟨x, M, l, h1, h2, h3, h4, h5, h6, h7⟩ := list_in (enc := enc) (W := W) (fun r (c : Idx) => IdxN (Low W) W r c) (fun c K => K ≤ 140737488355328 → c.W) 7 23 37 Try.underlying23 (by kernel_rfl) (by decide) (by decide +kernel) (fun m cs y h => idx_in h) hf
  exact ⟨x, l, h1, ⟨M, h2, h3, h4, h5⟩, h6, fun K hK => ⟨fun hK2 c hc => (h7 K hK).1 c hc hK2, (h7 K hK).2⟩⟩
theorem cat_in {m : Nat} {cs : List Value} {y : DataW H × List MemPlace} (h : DataW.trod enc Try.prog W 0 (fun _ => true) true m 25 cs = some y) :
    ∃ t : Cat, (CatN (Low W) W cs t) ∧ (cs.length = 4 ∧ ∀ u ∈ cs, u.oneCell' = true) ∧ ∀ K, (∀ k ∈ y.1.weights Try.prog 25, k ≤ K) → (K ≤ 140737488355328 → t.W) := by
  have hcv : Try.prog.cellsOf 25 = 4 := by kernel_rfl
  obtain ⟨xs, n', rfl, rfl, hlen, hxl, hfd⟩ := DataW.trod_struct Try.underlying25 h
  rw [hcv] at hlen
  match cs, hlen, xs, hxl with
  | [c0, c1, c2, c3], _, [y0, y1, y2, y3], _ =>
    have t0 := part (k := 1) (t := 3) (cs' := [c0]) (by kernel_rfl) (hfd 0 _ rfl) rfl
    have t1 := part (k := 1) (t := 3) (cs' := [c1]) (by kernel_rfl) (hfd 1 _ rfl) rfl
    have t2 := part (k := 1) (t := 22) (cs' := [c2]) (by kernel_rfl) (hfd 2 _ rfl) rfl
    have t3 := part (k := 1) (t := 23) (cs' := [c3]) (by kernel_rfl) (hfd 3 _ rfl) rfl
    obtain ⟨i0, e0, f0, g0⟩ := DataW.trod_int Try.underlying3 t0
    obtain ⟨i1, e1, f1, g1⟩ := DataW.trod_int Try.underlying3 t1
    obtain ⟨x2, l2, e2, r2, o2, k2⟩ := tabs_in t2
    obtain ⟨x3, l3, e3, r3, o3, k3⟩ := idxs_in t3
    cases e0; cases e1; cases e2; cases e3
    refine ⟨⟨i0, i1, l2, l3⟩, ⟨_, _, rfl, r2, r3, o2, o3⟩, ⟨rfl, fun u hu => by simp only [List.mem_cons, List.not_mem_nil, or_false] at hu; rcases hu with rfl | rfl | rfl | rfl <;> first | rfl | assumption⟩, fun K hK hK2 => ?_⟩
    have w2 := k2 K (fun k9 h9 => hK _ (by simp only [DataW.weights, Try.underlying25]; exact DataW.weights_mem_each (j := 2) rfl rfl _ h9))
    have w3 := k3 K (fun k9 h9 => hK _ (by simp only [DataW.weights, Try.underlying25]; exact DataW.weights_mem_each (j := 3) rfl rfl _ h9))
    exact ⟨i64_in g0, i64_in g1, w2.1 hK2, w3.1 hK2, Nat.le_trans w2.2 hK2, Nat.le_trans w3.2 hK2⟩
theorem catalog_open {base : Nat} {v : Value} {d : DataW H} {p : List MemPlace} (hw : Value.okWide Try.prog W .any base 25 v) (h : DataW.Trod enc Try.prog W 0 (fun _ => true) true 25 v d p) :
    ∃ (cs : List Value) (C : Cat), v = .agg cs.toArray ∧ CatN (Low W) W cs C ∧ ((∀ k ∈ d.weights Try.prog 25, k ≤ reachBytes) → C.W) := by
  unfold Value.okWide at hw
  rw [Try.underlying25] at hw
  obtain ⟨cs, rfl, hsz, -⟩ := hw
  obtain ⟨fuel, hf⟩ := h
  have hf1 : DataW.trod enc Try.prog W 0 (fun _ => true) true fuel 25 cs.toList = some (d, p) := hf
  obtain ⟨C, h1, h2, h3⟩ := cat_in hf1
  exact ⟨cs.toList, C, by simp, h1, fun hk => h3 reachBytes hk (by decide)⟩
theorem table_open {base : Nat} {v : Value} {d : DataW H} {p : List MemPlace} (hw : Value.okWide Try.prog W .any base 33 v) (h : DataW.Trod enc Try.prog W 0 (fun _ => true) true 33 v d p) :
    ∃ (cs : List Value) (C : Tab), v = .agg cs.toArray ∧ TabN (Low W) W cs C ∧ ((∀ k ∈ d.weights Try.prog 33, k ≤ reachBytes) → C.W) := by
  unfold Value.okWide at hw
  rw [Try.underlying33] at hw
  obtain ⟨cs, rfl, hsz, -⟩ := hw
  obtain ⟨fuel, hf⟩ := h
  have hf1 : DataW.trod enc Try.prog W 0 (fun _ => true) true fuel 33 cs.toList = some (d, p) := hf
  obtain ⟨C, h1, h2, h3⟩ := tab_in hf1
  exact ⟨cs.toList, C, by simp, h1, fun hk => h3 reachBytes hk (by decide)⟩
theorem index_open {base : Nat} {v : Value} {d : DataW H} {p : List MemPlace} (hw : Value.okWide Try.prog W .any base 37 v) (h : DataW.Trod enc Try.prog W 0 (fun _ => true) true 37 v d p) :
    ∃ (cs : List Value) (C : Idx), v = .agg cs.toArray ∧ IdxN (Low W) W cs C ∧ ((∀ k ∈ d.weights Try.prog 37, k ≤ reachBytes) → C.W) := by
  unfold Value.okWide at hw
  rw [Try.underlying37] at hw
  obtain ⟨cs, rfl, hsz, -⟩ := hw
  obtain ⟨fuel, hf⟩ := h
  have hf1 : DataW.trod enc Try.prog W 0 (fun _ => true) true fuel 37 cs.toList = some (d, p) := hf
  obtain ⟨C, h1, h2, h3⟩ := idx_in hf1
  exact ⟨cs.toList, C, by simp, h1, fun hk => h3 reachBytes hk (by decide)⟩
end
end Go.Proofs.Ytafcbelkhhjcoaa
