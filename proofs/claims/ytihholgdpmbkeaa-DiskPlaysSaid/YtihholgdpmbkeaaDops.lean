/-
  WHAT THE LAW DiskPlays TAKES IN: a slice of calls that came in.
-/
import Derived.Test.YtihholgdpmbkeaaOi
import Derived.Test.YtihholgdpmbkeaaLaw
import Derived.Deep.Slices
import Derived.Deep.Strs
import Derived.Lib.SmallJoins
import Derived.SizedLaws
set_option linter.unusedVariables false
set_option maxRecDepth 100000
namespace Go.Proofs.Ytihholgdpmbkeaa
open Go.RowKit Go.ChangeShapes Go.WideShapes Go.ChangeAt Go.Deep

/-- A call, with the slices that hold its bytes and numbers. -/
structure Lop where
  kind : Int
  at' : Int
  ba : Option Addr
  bc : Nat
  ka : Option Addr
  kc : Nat
  B : List UInt8
  K : List Int

def rowO (o : Lop) : List Value := [.int .i64 o.kind, .int .i64 o.at', .slice o.ba o.B.length o.bc, .slice o.ka o.K.length o.kc]
structure RdO (w : World) (o : Lop) : Prop where
  b : Rd w (.slice o.ba o.B.length o.bc) o.B
  k : Ri w (.slice o.ka o.K.length o.kc) o.K
  few : o.K.length * 8 ≤ 140737488351232
  wf : o.at' ≤ 9223372036854775807
def Ops (w : World) (x : Value) (M : List Lop) : Prop := Rws 4 w x (M.map rowO) ∧ ∀ o ∈ M, RdO w o

theorem RdO.old {w w' : World} {o : Lop} (h : RdO w o) (hb : Below w.heap.size w w') : RdO w' o := ⟨h.b.old hb, h.k.old hb, h.few, h.wf⟩
theorem Ops.old {w w' : World} {x : Value} {M : List Lop} (h : Ops w x M) (hb : Below w.heap.size w w') : Ops w' x M := ⟨h.1.old hb, fun o ho => (h.2 o ho).old hb⟩

theorem rowO_wide (o : Lop) : (rowO o).length = 4 ∧ ∀ u ∈ rowO o, u.oneCell' = true := by
  refine ⟨rfl, fun u hu => ?_⟩
  simp only [rowO, List.mem_cons, List.not_mem_nil, or_false] at hu
  rcases hu with rfl | rfl | rfl | rfl <;> rfl

theorem wideO (M : List Lop) : Wide 4 (M.map rowO) := fun r hr => by
  obtain ⟨o, _, rfl⟩ := List.mem_map.1 hr
  exact rowO_wide o

theorem Ops.nil (w : World) : Ops w (.slice none 0 0) [] := ⟨Rws.nil 4 w, fun m hm => by cases hm⟩

theorem Ops.form {w : World} {x : Value} {M : List Lop} (h : Ops w x M) : ∃ ao c, x = .slice ao M.length c ∧ M.length ≤ maxLen := by
  obtain ⟨ao, c, h1, h2, h3⟩ := h.1.form
  rw [List.length_map] at h1 h2
  exact ⟨ao, c, h1, Nat.le_trans h2 h3⟩

theorem Ops.get {w : World} {ao : Option Addr} {n c : Nat} {M : List Lop} (h : Ops w (.slice ao n c) M) {k : Nat} {o : Lop} (hk : M[k]? = some o) :
    ∃ b off, ao = some ⟨b, off, none⟩ ∧ w.cell? ⟨b, off + k * 4, none⟩ = some (.int .i64 o.kind) ∧ w.cell? ⟨b, off + k * 4 + 1, none⟩ = some (.int .i64 o.at') ∧ w.cell? ⟨b, off + k * 4 + 2, none⟩ = some (.slice o.ba o.B.length o.bc) ∧ w.cell? ⟨b, off + k * 4 + 3, none⟩ = some (.slice o.ka o.K.length o.kc) := by
  obtain ⟨b, off, ha, hc⟩ := h.1.get (by decide) (k := k) (r := rowO o) (by rw [List.getElem?_map, hk]; rfl)
  exact ⟨b, off, ha, hc 0 _ rfl, hc 1 _ rfl, hc 2 _ rfl, hc 3 _ rfl⟩

theorem Ops.at {w : World} {x : Value} {M : List Lop} (h : Ops w x M) {k : Nat} {o : Lop} (hk : M[k]? = some o) : RdO w o := h.2 o (List.mem_of_getElem? hk)

variable {H : Type} {enc : TypeId × Value → H} {W : World}

theorem mem_weightsAll {P : Program} {e : TypeId} {d : DataW H} : ∀ {l : List (DataW H)}, d ∈ l → ∀ n ∈ d.weights P e, n ∈ DataW.weightsAll P e l
  | a :: l, h, n, hn => by
    rw [DataW.weightsAll, List.mem_append]
    rcases List.mem_cons.1 h with rfl | h
    · exact .inl hn
    · exact .inr (mem_weightsAll h n hn)

theorem bytes_cells {m : Nat} {cs : List Value} {y : DataW H × List MemPlace} (h : DataW.trod enc Try.prog W 0 (fun _ => true) true m 30 cs = some y) :
    ∃ (a : Option Addr) (c : Nat) (l : List UInt8), cs = [.slice a l.length c] ∧ Rd W (.slice a l.length c) l := by
  rcases open_ints Try.underlying30 Try.underlying5 (by kernel_rfl) h with ⟨hcs, hx⟩ | ⟨x, l, c, zs, hcs, _, hl, hm, hz, hx, hcell, hwz⟩
  · exact ⟨none, 0, [], hcs, Rd.nil W⟩
  · have hz' : zs.length = c := by simpa using hz
    obtain ⟨b, hb, hr⟩ := rd_of_row (w := W) (a := some x) (len := l) (cap := c) (zs := zs) (.inr ⟨_, rfl, hl, hm, hz', hcell, hwz⟩)
    subst hb
    exact ⟨some x, c, b, hcs, hr⟩

theorem ints_cells {m : Nat} {cs : List Value} {y : DataW H × List MemPlace} (h : DataW.trod enc Try.prog W 0 (fun _ => true) true m 31 cs = some y) :
    ∃ (a : Option Addr) (c : Nat) (l : List Int), cs = [.slice a l.length c] ∧ Ri W (.slice a l.length c) l ∧ ∀ R, (∀ n ∈ y.1.weights Try.prog 31, n ≤ R) → l.length * 8 ≤ R := by
  rcases open_ints Try.underlying31 Try.underlying3 (by kernel_rfl) h with ⟨hcs, hx⟩ | ⟨x, l, c, zs, hcs, _, hl, hm, hz, hx, hcell, hwz⟩
  · exact ⟨none, 0, [], hcs, Rws.nil 1 W, fun R _ => Nat.zero_le _⟩
  · have hz' : zs.length = c := by simpa using hz
    have htl : (zs.take l).length = l := by rw [List.length_take]; omega
    refine ⟨some x, c, zs.take l, by rw [htl]; exact hcs, Ri.mk (by omega) hm (fun h => by cases h) (fun a ha j u hu => ?_), fun R hR => ?_⟩
    · cases ha
      have hj : j < l := by
        have := (List.getElem?_eq_some_iff.1 hu).1
        rw [List.length_map, htl] at this
        exact this
      have hjz : j < zs.length := by omega
      rw [hcell j hjz, List.getD_eq_getElem?_getD, List.getElem?_eq_getElem hjz, Option.getD_some]
      rw [List.getElem?_map, List.getElem?_take_of_lt hj, List.getElem?_eq_getElem hjz] at hu
      exact hu
    · have h1 : Try.prog.bytesOf 3 = 8 := by kernel_rfl
      rw [hx] at hR
      have h2 := hR _ (by simp only [DataW.weights, Try.underlying31]; exact List.mem_cons_self)
      simp only [lits, List.length_map, List.length_take, List.length_drop] at h2
      rw [h1] at h2
      rw [htl]
      omega

theorem op_cells {m : Nat} {cs : List Value} {y : DataW H × List MemPlace} (h : DataW.trod enc Try.prog W 0 (fun _ => true) true m 33 cs = some y) :
    ∃ o : Lop, cs = rowO o ∧ ((∀ n ∈ y.1.weights Try.prog 33, n ≤ 140737488351232) → RdO W o) := by
  have hc1 : Try.prog.cellsOf 3 = 1 := by kernel_rfl
  have hc2 : Try.prog.cellsOf 30 = 1 := by kernel_rfl
  have hc3 : Try.prog.cellsOf 31 = 1 := by kernel_rfl
  have hcv : Try.prog.cellsOf 33 = 4 := by kernel_rfl
  obtain ⟨y0, y1, y2, y3, n', hy, hlen, t0, t1, t2, t3⟩ := Joins.trod_struct4 Try.underlying33 h
  have t0' : DataW.trod enc Try.prog W 0 (fun _ => true) true n' 3 ((cs.drop 0).take 1) = some y0 := by rw [← hc1]; exact t0
  have t1' : DataW.trod enc Try.prog W 0 (fun _ => true) true n' 3 ((cs.drop 1).take 1) = some y1 := by rw [← hc1]; exact t1
  have t2' : DataW.trod enc Try.prog W 0 (fun _ => true) true n' 30 ((cs.drop 2).take 1) = some y2 := by rw [← hc2]; exact t2
  have t3' : DataW.trod enc Try.prog W 0 (fun _ => true) true n' 31 ((cs.drop 3).take 1) = some y3 := by rw [← hc3]; exact t3
  obtain ⟨i, hi, -, hw⟩ := DataW.trod_int Try.underlying3 t0'
  obtain ⟨j, hj, -, hwj⟩ := DataW.trod_int Try.underlying3 t1'
  obtain ⟨ba, bc, B, hB, rB⟩ := bytes_cells t2'
  obtain ⟨ka, kc, K, hK, rK, bK⟩ := ints_cells t3'
  rw [hcv] at hlen
  match cs, hlen with
  | [u0, u1, u2, u3], _ =>
    simp at hi hj hB hK
    subst hi; subst hj; subst hB; subst hK
    refine ⟨⟨i, j, ba, bc, ka, kc, B, K⟩, rfl, fun hR => ⟨rB, rK, ?_, ?_⟩⟩
    · refine bK _ fun n hn => hR n ?_
      rw [hy]
      simp only [DataW.weights, Try.underlying33]
      exact DataW.weights_mem_each (j := 3) rfl rfl n hn
    · have h9 := bounds_i64 hwj
      show j ≤ _
      omega

instance : Inhabited Lop := ⟨⟨0, 0, none, 0, none, 0, [], []⟩⟩

theorem ops_open {a : Option Addr} {len cap : Nat} {d : DataW H} {p : List MemPlace} (h : DataW.Trod enc Try.prog W 0 (fun _ => true) true 22 (.slice a len cap) d p) (hR : ∀ n ∈ d.weights Try.prog 22, n ≤ 140737488351232) :
    ∃ M : List Lop, M.length = len ∧ Ops W (.slice a len cap) M := by
  obtain ⟨fuel, hf⟩ := h
  rcases open_slice Try.underlying22 hf with ⟨hcs, hx⟩ | ⟨x, l, c, m, n, D, Pl, hcs, _, hl, hm, hmm, hx, hcell⟩
  · simp [Value.cells] at hcs
    obtain ⟨rfl, rfl, rfl⟩ := hcs
    exact ⟨[], rfl, Ops.nil W⟩
  · simp [Value.cells] at hcs
    obtain ⟨rfl, rfl, rfl⟩ := hcs
    have hcv : Try.prog.cellsOf 33 = 4 := by kernel_rfl
    rw [hcv] at hcell
    have key : ∀ i, i < len → ∃ v : Lop, (∀ j u, (rowO v)[j]? = some u → W.cell? (x.add (i * 4 + j)) = some u) ∧ ((∀ n ∈ (D i).weights Try.prog 33, n ≤ 140737488351232) → RdO W v) := by
      intro i hi
      obtain ⟨cs', h1, h2⟩ := hcell i (by rw [hmm]; simp; omega)
      obtain ⟨v, rfl, hv⟩ := op_cells h2
      obtain ⟨_, hl2, hc⟩ := World.cells?_some h1
      refine ⟨v, fun j u hu => ?_, hv⟩
      have hj := (List.getElem?_eq_some_iff.1 hu).1
      have := hc j hj
      rw [add_add] at this
      rw [this, ← hu]
    obtain ⟨f, hf2⟩ := choose_lt key
    have hlen : ((List.range len).map f).length = len := by simp
    have hrd : ∀ m ∈ (List.range len).map f, RdO W m := fun o ho => by
      obtain ⟨i, hi, rfl⟩ := List.mem_map.1 ho
      have hil := List.mem_range.1 hi
      have e : d = .slice ((List.range len).map D) ((List.range (m - len)).map fun j => D (len + j)) := congrArg Prod.fst hx
      rw [e] at hR
      refine (hf2 i hil).2 fun n hn => hR n ?_
      simp only [DataW.weights, Try.underlying22, List.mem_cons, List.mem_append]
      exact .inr (.inl (mem_weightsAll (List.mem_map.2 ⟨i, hi, rfl⟩) n hn))
    have hw := wideO ((List.range len).map f)
    refine ⟨(List.range len).map f, hlen, ⟨⟨some x, cap, by rw [List.length_map, hlen], by rw [List.length_map, hlen]; exact hl, hm, (fun h => by cases h), hw, fun a ha j u hu => ?_⟩, hrd⟩⟩
    cases ha
    have hjl := (List.getElem?_eq_some_iff.1 hu).1
    rw [hw.len, List.length_map, hlen] at hjl
    have hk : j / 4 < len := by omega
    have h1 : (((List.range len).map f).map rowO)[j / 4]? = some (rowO (f (j / 4))) := by
      rw [List.getElem?_map, List.getElem?_map, List.getElem?_range hk]
      rfl
    have h2 : (rowO (f (j / 4)))[j % 4]? = some ((rowO (f (j / 4)))[j % 4]'(by show j % 4 < 4; omega)) := List.getElem?_eq_getElem _
    have h3 := hw.at h1 h2
    have e : j / 4 * 4 + j % 4 = j := by omega
    rw [e, hu] at h3
    have h4 := (hf2 (j / 4) hk).1 (j % 4) u (by rw [h2]; exact h3.symm)
    rw [e] at h4
    exact h4
end Go.Proofs.Ytihholgdpmbkeaa
