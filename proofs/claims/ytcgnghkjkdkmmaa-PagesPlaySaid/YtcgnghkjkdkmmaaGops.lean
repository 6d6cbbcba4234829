/-
  WHAT THE LAW PagesPlay TAKES IN: a slice of calls that came in; how long its bytes are.
-/
import Derived.Test.YtcgnghkjkdkmmaaGlaw
import Derived.SizedLaws
set_option linter.unusedVariables false
set_option maxRecDepth 100000
namespace Go.Proofs.Ytcgnghkjkdkmmaa
open Go.RowKit Go.ChangeShapes Go.WideShapes Go.ChangeAt Go.Deep

/-- A call, with the slices that hold its bytes. -/
structure Lop where
  kind : Int
  p : Lp
  fa : Option Addr
  fc : Nat
  ta : Option Addr
  tc : Nat
  f : List UInt8
  t : List UInt8

def rowO (o : Lop) : List Value := [.int .i64 o.kind, (.slice o.p.ka o.p.key.length o.p.kc), (.slice o.p.va o.p.val.length o.p.vc), .int .i64 o.p.ver, (.slice o.fa o.f.length o.fc), (.slice o.ta o.t.length o.tc)]
def RdO (w : World) (o : Lop) : Prop := RdP w o.p ∧ Rd w (.slice o.fa o.f.length o.fc) o.f ∧ Rd w (.slice o.ta o.t.length o.tc) o.t
def Ops (w : World) (x : Value) (M : List Lop) : Prop := Rws 6 w x (M.map rowO) ∧ ∀ o ∈ M, RdO w o

theorem RdO.old {w w' : World} {o : Lop} (h : RdO w o) (hb : Below w.heap.size w w') : RdO w' o := ⟨h.1.old hb, h.2.1.old hb, h.2.2.old hb⟩
theorem Ops.old {w w' : World} {x : Value} {M : List Lop} (h : Ops w x M) (hb : Below w.heap.size w w') : Ops w' x M := ⟨h.1.old hb, fun o ho => (h.2 o ho).old hb⟩

theorem RdO.wide {w : World} {o : Lop} (h : RdO w o) : (rowO o).length = 6 ∧ ∀ u ∈ rowO o, u.oneCell' = true := by
  refine ⟨rfl, fun u hu => ?_⟩
  simp only [rowO, List.mem_cons, List.not_mem_nil, or_false] at hu
  rcases hu with rfl | rfl | rfl | rfl | rfl | rfl
  · rfl
  · exact one_rd h.1.1
  · exact one_rd h.1.2
  · rfl
  · exact one_rd h.2.1
  · exact one_rd h.2.2

theorem wideO {w : World} {M : List Lop} (h : ∀ o ∈ M, RdO w o) : Wide 6 (M.map rowO) := fun r hr => by
  obtain ⟨o, ho, rfl⟩ := List.mem_map.1 hr
  exact (h o ho).wide

theorem Ops.nil (w : World) : Ops w (.slice none 0 0) [] := ⟨Rws.nil 6 w, fun m hm => by cases hm⟩

theorem Ops.form {w : World} {x : Value} {M : List Lop} (h : Ops w x M) : ∃ ao c, x = .slice ao M.length c ∧ M.length ≤ maxLen := by
  obtain ⟨ao, c, h1, h2, h3⟩ := h.1.form
  rw [List.length_map] at h1 h2
  exact ⟨ao, c, h1, Nat.le_trans h2 h3⟩

theorem Ops.get {w : World} {ao : Option Addr} {n c : Nat} {M : List Lop} (h : Ops w (.slice ao n c) M) {k : Nat} {o : Lop} (hk : M[k]? = some o) :
    ∃ b off, ao = some ⟨b, off, none⟩ ∧ w.cell? ⟨b, off + k * 6, none⟩ = some (.int .i64 o.kind) ∧ w.cell? ⟨b, off + k * 6 + 1, none⟩ = some (.slice o.p.ka o.p.key.length o.p.kc) ∧ w.cell? ⟨b, off + k * 6 + 2, none⟩ = some (.slice o.p.va o.p.val.length o.p.vc) ∧
      w.cell? ⟨b, off + k * 6 + 3, none⟩ = some (.int .i64 o.p.ver) ∧ w.cell? ⟨b, off + k * 6 + 4, none⟩ = some (.slice o.fa o.f.length o.fc) ∧ w.cell? ⟨b, off + k * 6 + 5, none⟩ = some (.slice o.ta o.t.length o.tc) := by
  obtain ⟨b, off, ha, hc⟩ := h.1.get (by decide) (k := k) (r := rowO o) (by rw [List.getElem?_map, hk]; rfl)
  exact ⟨b, off, ha, hc 0 _ rfl, hc 1 _ rfl, hc 2 _ rfl, hc 3 _ rfl, hc 4 _ rfl, hc 5 _ rfl⟩

theorem Ops.at {w : World} {x : Value} {M : List Lop} (h : Ops w x M) {k : Nat} {o : Lop} (hk : M[k]? = some o) : RdO w o := h.2 o (List.mem_of_getElem? hk)

variable {H : Type} {enc : TypeId × Value → H} {W : World}

theorem mem_weightsAll {P : Program} {e : TypeId} {d : DataW H} : ∀ {l : List (DataW H)}, d ∈ l → ∀ n ∈ d.weights P e, n ∈ DataW.weightsAll P e l
  | a :: l, h, n, hn => by
    rw [DataW.weightsAll, List.mem_append]
    rcases List.mem_cons.1 h with rfl | h
    · exact .inl hn
    · exact .inr (mem_weightsAll h n hn)

theorem bytes_cells_w {m : Nat} {cs : List Value} {y : DataW H × List MemPlace} (h : DataW.trod enc Try.prog W 0 (fun _ => true) true m 23 cs = some y) :
    ∃ (a : Option Addr) (c : Nat) (l : List UInt8), cs = [.slice a l.length c] ∧ Rd W (.slice a l.length c) l ∧ ∀ R, (∀ n ∈ y.1.weights Try.prog 23, n ≤ R) → l.length ≤ R := by
  rcases open_ints Try.underlying23 Try.underlying5 (by kernel_rfl) h with ⟨hcs, hx⟩ | ⟨x, l, c, zs, hcs, _, hl, hm, hz, hx, hcell, hwz⟩
  · exact ⟨none, 0, [], hcs, Rd.nil W, fun R _ => Nat.zero_le _⟩
  · have hz' : zs.length = c := by simpa using hz
    obtain ⟨b, hb, hr⟩ := rd_of_row (w := W) (a := some x) (len := l) (cap := c) (zs := zs) (.inr ⟨_, rfl, hl, hm, hz', hcell, hwz⟩)
    subst hb
    refine ⟨some x, c, b, hcs, hr, fun R hR => ?_⟩
    have h1 : Try.prog.bytesOf 5 = 1 := by kernel_rfl
    rw [hx] at hR
    have h2 := hR _ (by simp only [DataW.weights, Try.underlying23]; exact List.mem_cons_self)
    simp only [lits, List.length_map, List.length_take, List.length_drop] at h2
    rw [h1] at h2
    omega

theorem pair_cells_w {m : Nat} {cs : List Value} {y : DataW H × List MemPlace} (h : DataW.trod enc Try.prog W 0 (fun _ => true) true m 31 cs = some y) :
    ∃ p : Lp, cs = rowP p ∧ RdP W p ∧ ∀ R, (∀ n ∈ y.1.weights Try.prog 31, n ≤ R) → p.key.length ≤ R ∧ p.val.length ≤ R := by
  have hc1 : Try.prog.cellsOf 3 = 1 := by kernel_rfl
  have hc2 : Try.prog.cellsOf 23 = 1 := by kernel_rfl
  have hcv : Try.prog.cellsOf 31 = 3 := by kernel_rfl
  obtain ⟨y0, y1, y2, n', hy, hlen, t0, t1, t2⟩ := trod_struct3 Try.underlying31 h
  have t0' : DataW.trod enc Try.prog W 0 (fun _ => true) true n' 23 ((cs.drop 0).take 1) = some y0 := by rw [← hc2]; exact t0
  have t1' : DataW.trod enc Try.prog W 0 (fun _ => true) true n' 23 ((cs.drop 1).take 1) = some y1 := by rw [← hc2]; exact t1
  have t2' : DataW.trod enc Try.prog W 0 (fun _ => true) true n' 3 ((cs.drop 2).take 1) = some y2 := by rw [← hc1]; exact t2
  obtain ⟨ka, kc, key, hk, rk, bk⟩ := bytes_cells_w t0'
  obtain ⟨va, vc, val, hv, rv, bv⟩ := bytes_cells_w t1'
  obtain ⟨i, hi, -, hw⟩ := DataW.trod_int Try.underlying3 t2'
  rw [hcv] at hlen
  match cs, hlen with
  | [u0, u1, u2], _ =>
    simp at hk hi hv
    subst hk; subst hi; subst hv
    refine ⟨⟨ka, kc, va, vc, key, val, i⟩, rfl, ⟨rk, rv⟩, fun R hR => ?_⟩
    rw [hy] at hR
    refine ⟨bk R fun n hn => hR n ?_, bv R fun n hn => hR n ?_⟩
    · simp only [DataW.weights, Try.underlying31]
      exact DataW.weights_mem_each (j := 0) rfl rfl n hn
    · simp only [DataW.weights, Try.underlying31]
      exact DataW.weights_mem_each (j := 1) rfl rfl n hn

theorem op_cells {m : Nat} {cs : List Value} {y : DataW H × List MemPlace} (h : DataW.trod enc Try.prog W 0 (fun _ => true) true m 33 cs = some y) :
    ∃ o : Lop, cs = rowO o ∧ RdO W o ∧ ∀ R, (∀ n ∈ y.1.weights Try.prog 33, n ≤ R) → o.p.key.length ≤ R ∧ o.p.val.length ≤ R := by
  have hc1 : Try.prog.cellsOf 3 = 1 := by kernel_rfl
  have hc2 : Try.prog.cellsOf 25 = 2 := by kernel_rfl
  have hc3 : Try.prog.cellsOf 31 = 3 := by kernel_rfl
  have hcv : Try.prog.cellsOf 33 = 6 := by kernel_rfl
  obtain ⟨y0, y1, y2, n', hy, hlen, t0, t1, t2⟩ := trod_struct3 Try.underlying33 h
  have t0' : DataW.trod enc Try.prog W 0 (fun _ => true) true n' 3 ((cs.drop 0).take 1) = some y0 := by rw [← hc1]; exact t0
  have t1' : DataW.trod enc Try.prog W 0 (fun _ => true) true n' 31 ((cs.drop 1).take 3) = some y1 := by rw [← hc3]; exact t1
  have t2' : DataW.trod enc Try.prog W 0 (fun _ => true) true n' 25 ((cs.drop 4).take 2) = some y2 := by rw [← hc2]; exact t2
  obtain ⟨i, hi, -, hw⟩ := DataW.trod_int Try.underlying3 t0'
  obtain ⟨p, hp, rp, bp⟩ := pair_cells_w t1'
  obtain ⟨fv, tv, f, t, hs, rf, rt⟩ := span_cells t2'
  obtain ⟨fa, fc, rfl, -⟩ := id rf
  obtain ⟨ta, tc, rfl, -⟩ := id rt
  rw [hcv] at hlen
  match cs, hlen with
  | [u0, u1, u2, u3, u4, u5], _ =>
    simp [rowP] at hi hp hs
    obtain ⟨rfl, rfl, rfl⟩ := hp
    obtain ⟨rfl, rfl⟩ := hs
    subst hi
    refine ⟨⟨i, p, fa, fc, ta, tc, f, t⟩, rfl, ⟨rp, rf, rt⟩, fun R hR => ?_⟩
    rw [hy] at hR
    refine bp R fun n hn => hR n ?_
    simp only [DataW.weights, Try.underlying33]
    exact DataW.weights_mem_each (j := 1) rfl rfl n hn

instance : Inhabited Lop := ⟨⟨0, default, none, 0, none, 0, [], []⟩⟩

theorem ops_open {a : Option Addr} {len cap : Nat} {d : DataW H} {p : List MemPlace} (h : DataW.Trod enc Try.prog W 0 (fun _ => true) true 22 (.slice a len cap) d p) :
    ∃ M : List Lop, M.length = len ∧ Ops W (.slice a len cap) M ∧ ∀ R, (∀ n ∈ d.weights Try.prog 22, n ≤ R) → ∀ o ∈ M, o.p.key.length ≤ R ∧ o.p.val.length ≤ R := by
  obtain ⟨fuel, hf⟩ := h
  rcases open_slice Try.underlying22 hf with ⟨hcs, hx⟩ | ⟨x, l, c, m, n, D, Pl, hcs, _, hl, hm, hmm, hx, hcell⟩
  · simp [Value.cells] at hcs
    obtain ⟨rfl, rfl, rfl⟩ := hcs
    exact ⟨[], rfl, Ops.nil W, fun R _ o ho => by cases ho⟩
  · simp [Value.cells] at hcs
    obtain ⟨rfl, rfl, rfl⟩ := hcs
    have hcv : Try.prog.cellsOf 33 = 6 := by kernel_rfl
    rw [hcv] at hcell
    have key : ∀ i, i < len → ∃ v : Lop, (∀ j u, (rowO v)[j]? = some u → W.cell? (x.add (i * 6 + j)) = some u) ∧ RdO W v ∧ ∀ R, (∀ n ∈ (D i).weights Try.prog 33, n ≤ R) → v.p.key.length ≤ R ∧ v.p.val.length ≤ R := by
      intro i hi
      obtain ⟨cs', h1, h2⟩ := hcell i (by rw [hmm]; simp; omega)
      obtain ⟨v, rfl, hv, hb⟩ := op_cells h2
      obtain ⟨_, hl2, hc⟩ := World.cells?_some h1
      refine ⟨v, fun j u hu => ?_, hv, hb⟩
      have hj := (List.getElem?_eq_some_iff.1 hu).1
      have := hc j hj
      rw [add_add] at this
      rw [this, ← hu]
    obtain ⟨f, hf2⟩ := choose_lt key
    have hlen : ((List.range len).map f).length = len := by simp
    have hrd : ∀ m ∈ (List.range len).map f, RdO W m := fun m hm => by
      obtain ⟨i, hi, rfl⟩ := List.mem_map.1 hm
      exact (hf2 i (List.mem_range.1 hi)).2.1
    have hw := wideO hrd
    refine ⟨(List.range len).map f, hlen, ⟨⟨some x, cap, by rw [List.length_map, hlen], by rw [List.length_map, hlen]; exact hl, hm, (fun h => by cases h), hw, fun a ha j u hu => ?_⟩, hrd⟩, fun R hR o ho => ?_⟩
    · cases ha
      have hjl := (List.getElem?_eq_some_iff.1 hu).1
      rw [hw.len, List.length_map, hlen] at hjl
      have hk : j / 6 < len := by omega
      have h1 : (((List.range len).map f).map rowO)[j / 6]? = some (rowO (f (j / 6))) := by
        rw [List.getElem?_map, List.getElem?_map, List.getElem?_range hk]
        rfl
      have h2 : (rowO (f (j / 6)))[j % 6]? = some ((rowO (f (j / 6)))[j % 6]'(by show j % 6 < 6; omega)) := List.getElem?_eq_getElem _
      have h3 := hw.at h1 h2
      have e : j / 6 * 6 + j % 6 = j := by omega
      rw [e, hu] at h3
      have h4 := (hf2 (j / 6) hk).1 (j % 6) u (by rw [h2]; exact h3.symm)
      rw [e] at h4
      exact h4
    · obtain ⟨i, hi, rfl⟩ := List.mem_map.1 ho
      have hil := List.mem_range.1 hi
      have e : d = .slice ((List.range len).map D) ((List.range (m - len)).map fun j => D (len + j)) := congrArg Prod.fst hx
      rw [e] at hR
      refine (hf2 i hil).2.2 R fun n hn => hR n ?_
      simp only [DataW.weights, Try.underlying22, List.mem_cons, List.mem_append]
      exact .inr (.inl (mem_weightsAll (List.mem_map.2 ⟨i, hi, rfl⟩) n hn))
end Go.Proofs.Ytcgnghkjkdkmmaa
