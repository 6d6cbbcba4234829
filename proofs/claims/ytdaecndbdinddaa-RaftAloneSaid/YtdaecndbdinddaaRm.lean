/-
  WHAT THE LAWS' FRAMES USE: a log that came in.
-/
import Derived.Test.YtdaecndbdinddaaRw
import Derived.Test.YtdaecndbdinddaaRlaw
import Derived.Deep.Strs
set_option linter.unusedVariables false
set_option linter.unusedSimpArgs false
set_option maxRecDepth 100000
namespace Go.Proofs.Ytdaecndbdinddaa
open Go.RowKit Go.ChangeShapes Go.WideShapes Go.ChangeAt Go.Deep

variable {H : Type} {enc : TypeId × Value → H} {W : World}

theorem mem_weightsAll {P : Program} {e : TypeId} {d : DataW H} : ∀ {l : List (DataW H)}, d ∈ l → ∀ n ∈ d.weights P e, n ∈ DataW.weightsAll P e l
  | a :: l, h, n, hn => by
    rw [DataW.weightsAll, List.mem_append]
    rcases List.mem_cons.1 h with rfl | h
    · exact .inl hn
    · exact .inr (mem_weightsAll h n hn)

theorem bytes_cells_w {m : Nat} {cs : List Value} {y : DataW H × List MemPlace} (h : DataW.trod enc Try.prog W 0 (fun _ => true) true m 28 cs = some y) :
    ∃ (a : Option Addr) (c : Nat) (l : List UInt8), cs = [.slice a l.length c] ∧ Rd W (.slice a l.length c) l ∧ ∀ R, (∀ n ∈ y.1.weights Try.prog 28, n ≤ R) → l.length ≤ R := by
  rcases open_ints Try.underlying28 Try.underlying5 (by kernel_rfl) h with ⟨hcs, hx⟩ | ⟨x, l, c, zs, hcs, _, hl, hm, hz, hx, hcell, hwz⟩
  · exact ⟨none, 0, [], hcs, Rd.nil W, fun R _ => Nat.zero_le _⟩
  · have hz' : zs.length = c := by simpa using hz
    obtain ⟨b, hb, hr⟩ := rd_of_row (w := W) (a := some x) (len := l) (cap := c) (zs := zs) (.inr ⟨_, rfl, hl, hm, hz', hcell, hwz⟩)
    subst hb
    refine ⟨some x, c, b, hcs, hr, fun R hR => ?_⟩
    have h1 : Try.prog.bytesOf 5 = 1 := by kernel_rfl
    rw [hx] at hR
    have h2 := hR _ (by simp only [DataW.weights, Try.underlying28]; exact List.mem_cons_self)
    simp only [lits, List.length_map, List.length_take, List.length_drop] at h2
    rw [h1] at h2
    omega

theorem u64_of_wf {i : Int} (h : (Lit.int .u64 i).wf = true) : ∃ n : Nat, i = (n : Int) ∧ n < 18446744073709551616 := by
  have := bounds_u64 h
  exact ⟨i.toNat, by omega, by omega⟩
theorem i64_of_wf {i : Int} (h : (Lit.int .i64 i).wf = true) : -9223372036854775808 ≤ i ∧ i < 9223372036854775808 := by
  have := bounds_i64 h
  omega

/-- What is so of an entry, but for how many bytes it has. -/
def EnOk (W : World) (e : En) : Prop := Rd W (rcv e.r) e.r.b ∧ e.t < 18446744073709551616 ∧ e.i < 18446744073709551616

theorem entry_cells {m : Nat} {cs : List Value} {y : DataW H × List MemPlace} (h : DataW.trod enc Try.prog W 0 (fun _ => true) true m 58 cs = some y) :
    ∃ e : En, cs = rowE e ∧ EnOk W e ∧ ∀ R, (∀ n ∈ y.1.weights Try.prog 58, n ≤ R) → e.r.b.length ≤ R := by
  have hc1 : Try.prog.cellsOf 29 = 1 := by kernel_rfl
  have hc2 : Try.prog.cellsOf 28 = 1 := by kernel_rfl
  have hcv : Try.prog.cellsOf 58 = 3 := by kernel_rfl
  obtain ⟨y0, y1, y2, n', hy, hlen, t0, t1, t2⟩ := trod_struct3 Try.underlying58 h
  have t0' : DataW.trod enc Try.prog W 0 (fun _ => true) true n' 29 ((cs.drop 0).take 1) = some y0 := by rw [← hc1]; exact t0
  have t1' : DataW.trod enc Try.prog W 0 (fun _ => true) true n' 29 ((cs.drop 1).take 1) = some y1 := by rw [← hc1]; exact t1
  have t2' : DataW.trod enc Try.prog W 0 (fun _ => true) true n' 28 ((cs.drop 2).take 1) = some y2 := by rw [← hc2]; exact t2
  obtain ⟨i, hi, -, hw⟩ := DataW.trod_int Try.underlying29 t0'
  obtain ⟨j, hj, -, hw2⟩ := DataW.trod_int Try.underlying29 t1'
  obtain ⟨ka, kc, b, hk, rk, bk⟩ := bytes_cells_w t2'
  obtain ⟨t, rfl, ht⟩ := u64_of_wf hw
  obtain ⟨x, rfl, hx⟩ := u64_of_wf hw2
  rw [hcv] at hlen
  match cs, hlen with
  | [u0, u1, u2], _ =>
    simp at hk hi hj
    subst hk; subst hi; subst hj
    refine ⟨⟨t, x, ⟨ka, kc, b⟩⟩, rfl, ⟨rk, ht, hx⟩, fun R hR => ?_⟩
    rw [hy] at hR
    refine bk R fun n hn => hR n ?_
    simp only [DataW.weights, Try.underlying58]
    exact DataW.weights_mem_each (j := 2) rfl rfl n hn

instance : Inhabited En := ⟨⟨0, 0, ⟨none, 0, []⟩⟩⟩

theorem ents_cells {f0 : Nat} {cs : List Value} {y : DataW H × List MemPlace} (hf : DataW.trod enc Try.prog W 0 (fun _ => true) true f0 30 cs = some y) :
    ∃ (a : Option Addr) (cap : Nat) (E : List En), cs = [.slice a E.length cap] ∧ Rws 3 W (.slice a E.length cap) (E.map rowE) ∧ (∀ e ∈ E, EnOk W e) ∧ ∀ R, (∀ n ∈ y.1.weights Try.prog 30, n ≤ R) → (∀ e ∈ E, e.r.b.length ≤ R) ∧ E.length ≤ R := by
  rcases open_slice Try.underlying30 hf with ⟨hcs, hx⟩ | ⟨x, len, cap, m, n, D, Pl, hcs, _, hl, hm, hmm, hx, hcell⟩
  · exact ⟨none, 0, [], hcs, Rws.nil 3 W, fun e he => (by cases he), fun R _ => ⟨fun e he => (by cases he), Nat.zero_le _⟩⟩
  · have hcv : Try.prog.cellsOf 58 = 3 := by kernel_rfl
    have hbv : Try.prog.bytesOf 58 = 40 := by kernel_rfl
    rw [hcv] at hcell
    have key : ∀ i, i < len → ∃ v : En, (∀ j u, (rowE v)[j]? = some u → W.cell? (x.add (i * 3 + j)) = some u) ∧ EnOk W v ∧ ∀ R, (∀ n ∈ (D i).weights Try.prog 58, n ≤ R) → v.r.b.length ≤ R := by
      intro i hi
      obtain ⟨cs', h1, h2⟩ := hcell i (by rw [hmm]; simp; omega)
      obtain ⟨v, rfl, hv, hb⟩ := entry_cells h2
      obtain ⟨_, hl2, hc⟩ := World.cells?_some h1
      refine ⟨v, fun j u hu => ?_, hv, hb⟩
      have hj := (List.getElem?_eq_some_iff.1 hu).1
      have := hc j hj
      rw [add_add] at this
      rw [this, ← hu]
    obtain ⟨f, hf2⟩ := choose_lt key
    have hlen : ((List.range len).map f).length = len := by simp
    have hrd : ∀ m ∈ (List.range len).map f, EnOk W m := fun m hm => by
      obtain ⟨i, hi, rfl⟩ := List.mem_map.1 hm
      exact (hf2 i (List.mem_range.1 hi)).2.1
    have hw : Wide 3 (((List.range len).map f).map rowE) := fun r hr => by
      obtain ⟨e, -, rfl⟩ := List.mem_map.1 hr
      exact ⟨rfl, fun u hu => by simp only [rowE, rcv, List.mem_cons, List.not_mem_nil, or_false] at hu; rcases hu with rfl | rfl | rfl <;> rfl⟩
    refine ⟨some x, cap, (List.range len).map f, by rw [hlen]; exact hcs, ⟨some x, cap, by simp, by rw [List.length_map, hlen]; exact hl, hm, (fun h => by cases h), hw, fun a ha j u hu => ?_⟩, hrd, fun R hR => ?_⟩
    · cases ha
      have hjl := (List.getElem?_eq_some_iff.1 hu).1
      rw [hw.len, List.length_map, hlen] at hjl
      have hk : j / 3 < len := by omega
      have h1 : (((List.range len).map f).map rowE)[j / 3]? = some (rowE (f (j / 3))) := by
        rw [List.getElem?_map, List.getElem?_map, List.getElem?_range hk]
        rfl
      have h2 : (rowE (f (j / 3)))[j % 3]? = some ((rowE (f (j / 3)))[j % 3]'(by show j % 3 < 3; omega)) := List.getElem?_eq_getElem _
      have h3 := hw.at h1 h2
      have e : j / 3 * 3 + j % 3 = j := by omega
      rw [e, hu] at h3
      have h4 := (hf2 (j / 3) hk).1 (j % 3) u (by rw [h2]; exact h3.symm)
      rw [e] at h4
      exact h4
    · have e : y.1 = .slice ((List.range len).map D) ((List.range (m - len)).map fun j => D (len + j)) := congrArg Prod.fst hx
      rw [e] at hR
      refine ⟨fun o ho => ?_, ?_⟩
      · obtain ⟨i, hi, rfl⟩ := List.mem_map.1 ho
        have hil := List.mem_range.1 hi
        refine (hf2 i hil).2.2 R fun n hn => hR n ?_
        simp only [DataW.weights, Try.underlying30, List.mem_cons, List.mem_append]
        exact .inr (.inl (mem_weightsAll (List.mem_map.2 ⟨i, hi, rfl⟩) n hn))
      · have h2 := hR _ (by simp only [DataW.weights, Try.underlying30]; exact List.mem_cons_self)
        simp only [List.length_map, List.length_range] at h2
        rw [hbv] at h2
        rw [hlen]
        omega

/-- A log that came in. -/
theorem log_open {base : Nat} {v : Value} {d : DataW H} {p : List MemPlace} (hw : Value.okWide Try.prog W .any base 69 v) (h : DataW.Trod enc Try.prog W 0 (fun _ => true) true 69 v d p) :
    ∃ l : Lo, v = l.v ∧ ∀ R, R ≤ 140737488355328 → (∀ n ∈ d.weights Try.prog 69, n ≤ R) → LoAt W l := by
  have hcv : Try.prog.cellsOf 69 = 6 := by kernel_rfl
  have hcs : Try.prog.cellsOf 67 = 3 := by kernel_rfl
  have hch : Try.prog.cellsOf 65 = 2 := by kernel_rfl
  have hc1 : Try.prog.cellsOf 29 = 1 := by kernel_rfl
  have hci : Try.prog.cellsOf 3 = 1 := by kernel_rfl
  have hc2 : Try.prog.cellsOf 28 = 1 := by kernel_rfl
  have hce : Try.prog.cellsOf 30 = 1 := by kernel_rfl
  unfold Value.okWide at hw
  rw [Try.underlying69] at hw
  obtain ⟨cs, rfl, hsz, -⟩ := hw
  obtain ⟨fuel, hf⟩ := h
  have hf1 : DataW.trod enc Try.prog W 0 (fun _ => true) true fuel 69 cs.toList = some (d, p) := hf
  obtain ⟨y0, y1, y2, n', hy, hlen, t0, t1, t2⟩ := trod_struct3 Try.underlying69 hf1
  have t0' : DataW.trod enc Try.prog W 0 (fun _ => true) true n' 65 ((cs.toList.drop 0).take 2) = some y0 := by rw [← hch]; exact t0
  have t1' : DataW.trod enc Try.prog W 0 (fun _ => true) true n' 67 ((cs.toList.drop 2).take 3) = some y1 := by rw [← hcs]; exact t1
  have t2' : DataW.trod enc Try.prog W 0 (fun _ => true) true n' 30 ((cs.toList.drop 5).take 1) = some y2 := by rw [← hce]; exact t2
  obtain ⟨z0, z1, n1, hz, hlz, s0, s1⟩ := trod_struct2 Try.underlying65 t0'
  have s0' : DataW.trod enc Try.prog W 0 (fun _ => true) true n1 29 ((((cs.toList.drop 0).take 2).drop 0).take 1) = some z0 := by rw [← hc1]; exact s0
  have s1' : DataW.trod enc Try.prog W 0 (fun _ => true) true n1 3 ((((cs.toList.drop 0).take 2).drop 1).take 1) = some z1 := by rw [← hci]; exact s1
  obtain ⟨q0, q1, q2, n2, hq, hlq, r0, r1, r2⟩ := trod_struct3 Try.underlying67 t1'
  have r0' : DataW.trod enc Try.prog W 0 (fun _ => true) true n2 29 ((((cs.toList.drop 2).take 3).drop 0).take 1) = some q0 := by rw [← hc1]; exact r0
  have r1' : DataW.trod enc Try.prog W 0 (fun _ => true) true n2 29 ((((cs.toList.drop 2).take 3).drop 1).take 1) = some q1 := by rw [← hc1]; exact r1
  have r2' : DataW.trod enc Try.prog W 0 (fun _ => true) true n2 28 ((((cs.toList.drop 2).take 3).drop 2).take 1) = some q2 := by rw [← hc2]; exact r2
  obtain ⟨i0, e0, -, w0⟩ := DataW.trod_int Try.underlying29 s0'
  obtain ⟨i1, e1, -, w1⟩ := DataW.trod_int Try.underlying3 s1'
  obtain ⟨i2, e2, -, w2⟩ := DataW.trod_int Try.underlying29 r0'
  obtain ⟨i3, e3, -, w3⟩ := DataW.trod_int Try.underlying29 r1'
  obtain ⟨ka, kc, b, e4, rk, bk⟩ := bytes_cells_w r2'
  obtain ⟨eo, ec, E, e5, rE, oE, bE⟩ := ents_cells t2'
  obtain ⟨ht, rfl, hht⟩ := u64_of_wf w0
  obtain ⟨si, rfl, hsi⟩ := u64_of_wf w2
  obtain ⟨st, rfl, hst⟩ := u64_of_wf w3
  have hv := i64_of_wf w1
  obtain ⟨L, hL⟩ : ∃ L, L = cs.toList := ⟨_, rfl⟩
  have hcs' : cs = L.toArray := by rw [hL]
  rw [← hL] at hlen e0 e1 e2 e3 e4 e5
  rw [hcv] at hlen
  subst hcs'
  match L, hlen with
  | [u0, u1, u2, u3, u4, u5], _ =>
    simp at e0 e1 e2 e3 e4 e5
    subst e0; subst e1; subst e2; subst e3; subst e4; subst e5
    refine ⟨⟨ht, i1, si, st, ⟨ka, kc, b⟩, eo, ec, E⟩, rfl, fun R hR hn => ?_⟩
    have hd : d = .agg [y0.1, y1.1, y2.1] := congrArg Prod.fst hy
    rw [hd] at hn
    have hs := congrArg Prod.fst hq
    have b1 := bk R fun n h9 => hn n (by
      simp only [DataW.weights, Try.underlying69]
      refine DataW.weights_mem_each (j := 1) rfl rfl n ?_
      rw [hs]
      simp only [DataW.weights, Try.underlying67]
      exact DataW.weights_mem_each (j := 2) rfl rfl n h9)
    have b2 := bE R fun n h9 => hn n (by
      simp only [DataW.weights, Try.underlying69]
      exact DataW.weights_mem_each (j := 2) rfl rfl n h9)
    exact ⟨rk, ⟨rE, fun e he => ⟨(oE e he).1, (oE e he).2.1, (oE e he).2.2, Nat.le_trans (b2.1 e he) hR⟩⟩, hht, hsi, hst, hv, Nat.le_trans b1 hR, Nat.le_trans b2.2 hR⟩
end Go.Proofs.Ytdaecndbdinddaa
