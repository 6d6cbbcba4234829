import Derived.Test.YtpdmocdfnakggaaDoorRows
import Derived.WalkKit
import Derived.WalkSpells
import Derived.WalkLawsBesides
import Derived.Laws.AppendOwnNone
import Derived.Test.YtpdmocdfnakggaaDoorProg
import Derived.LaidEql
import Derived.Stop.Asserts
import Derived.RowKitTokens
import Derived.ProofKit
import Derived.OpenShut
import Derived.ShutString
import Derived.ChangeOld
import Derived.Below
import Derived.SizedLaws
import Derived.Deep.Slices
import Derived.Deep.AppendLies
import Derived.BigQuiet
import Derived.Deep.QuietTactic
import Derived.Deep.CutRange
import Derived.Deep.RegionWith
import Derived.Deep.RegionHeld3
import Derived.Lib.Bytealg
import Derived.Deep.Strs
import GoSem.Op.String
import Derived.Deep.RegionHeld
import Derived.Lib.Bytes
import Derived.Deep.OwnRows
import Derived.OwnWalk
import Derived.Lib.AppendZeros
import Derived.Deep.RegionLaw
import Derived.Test.YtpdmocdfnakggaaDoorZR1
import Derived.Test.YtpdmocdfnakggaaDoorZR2
import Derived.Test.YtpdmocdfnakggaaDoorZR3
import Derived.Test.YtpdmocdfnakggaaDoorZR4
import Derived.Test.YtpdmocdfnakggaaDoorZR5
import Derived.Test.YtpdmocdfnakggaaDoorZR6
set_option linter.unusedVariables false
set_option linter.unusedSimpArgs false
set_option linter.unusedVariables false
set_option linter.unusedSimpArgs false
set_option maxRecDepth 100000
namespace Go.Proofs.YtpdmocdfnakggaaDoor
open Go.RowKit Go.Deep Go.Lib

/-- What is promised behind each operation may be made narrower. -/
theorem wpAnyH_low {P : Program} {md : Region.Mode} {ops : Array Oper} {Q : Exit → Act → World → Prop} {S S' : World → Prop} (h : ∀ V, S' V → S V) : ∀ (fuel : Nat) (listed : Array Bool) (a : Act) (w : World),
    wpAnyH P md ops Q S' fuel listed a w → wpAnyH P md ops Q S fuel listed a w
  | 0, _, _, _, H => H
  | fuel + 1, _, _, _, H => ⟨H.1, fun i hi => wpOp_mono (fun a' w' h' => ⟨h _ h'.1, wpAnyH_low h fuel _ _ _ h'.2⟩) (H.2 i hi)⟩

/-- One value behind a list of the call's own, in a region's arm. -/
theorem step_v1 {P : Program} {w : World} {ops : Array Oper} {o : Oper} {a : Act} {K : Act → World → Prop} {Q : Exit → Act → World → Prop} {E : Prop} (hgd : Region.wanted o (yielded ops a.tmps) = true) (s x : Operand) (t : TypeId)
    (ho : o.op = .call { callee := .builtin .append, args := #[s, x], argTypes := #[t, t] })
    (base : Nat) (e : TypeId) (ht : P.underlying t = some (.slice e)) (z : Value) (hinfo : (P.info? e).map (fun i => (i.zero, i.size, i.bytes)) = some (some z, 3, 32)) (hzs : z.cells.size = 3)
    (v : Value) (n : Nat) (xs : List Value) (hs : a.eval s = v) (hown : w.ownsRow base e 3 v n xs)
    (g : Nat) (u : Vl) (t' : TypeId) (hx : a.eval x = .slice (some ⟨g, 0, none⟩) 1 1) (hr : w.heap[g]? = some (.cells #[.int .i64 u.k, .int .i64 u.i, .string ⟨u.s.toArray⟩] t' (0, 0)))
    (hn : n + 1 ≤ 100000) (hbase : base ≤ w.heap.size)
    (h : ∀ v' w', w'.ownsRow base e 3 v' (n + 1) (xs ++ cellsL [u]) → w.grownBy w' v.ownBlock → (∀ k, v'.ownBlock = some k → v.ownBlock = some k ∨ w.heap.size ≤ k) → K (a.put o.dst v') w') :
    if Region.wanted o (yielded ops a.tmps) = true then Oper.wp P o a w K Q else E := by
  obtain ⟨i0, hi, hz0, hz1, hz2⟩ : ∃ i, P.info? e = some i ∧ i.zero = some z ∧ i.size = 3 ∧ i.bytes = 32 := by
    cases hq : P.info? e with
    | none => rw [hq] at hinfo; cases hinfo
    | some i => rw [hq] at hinfo; simp at hinfo; exact ⟨i, rfl, hinfo⟩
  have hnews : ∀ (j : Nat) y, (cellsL [u])[j]? = some y → w.cell? ((⟨g, 0, none⟩ : Addr).add j) = some y := fun j y hy => by
    rw [WideShapes.add_plain, Nat.zero_add]
    exact cell_in hr j y (by rw [List.getElem?_toArray]; exact hy)
  have hlen : (cellsL [u]).length = 1 * 3 := rfl
  obtain ⟨v', w', hrun, b1, b2, b3⟩ := run_append_own (P := P) w base t o.type e i0 z 3 32 ht hi hz0 hz1 hz2 hzs (by decide) v n xs hown ⟨g, 0, none⟩ 1 1 (cellsL [u]) hlen hnews (cellsL_one [u]) (by unfold maxLen; omega) (by omega) hbase
  have hfr := app_fresh (ty := o.type) ht hi hz0 hz1 hz2 hzs (by decide) hown (a := ⟨g, 0, none⟩) (m := 1) (c := 1) (news := cellsL [u]) hlen hnews (cellsL_one [u]) (by unfold maxLen; omega) (by omega) hrun
  rw [if_pos hgd]
  unfold Oper.wp execOp
  simp only [ho, resolve, invoke, builtin, Sem.run_bind, Sem.run_pure, Result.andThen_ok, List.map_toArray, List.map_cons, List.map_nil, hs, hx, hrun]
  exact h v' w' b1 b2 hfr

noncomputable def rowF (T : Tab) (r : List Vl) : Bool := by classical exact decide (RowOk T r)
theorem rowF_iff (T : Tab) (r : List Vl) : rowF T r = true ↔ RowOk T r := by unfold rowF; simp
theorem refRight_f {N : Nat → Prop} {w : World} {cs : List Value} {T : Tab} (h : TabN N w cs T) {x : Value} {r : List Vl} (hx : Vs w x r) :
    Calls Tryd.prog 7 #[.agg cs.toArray, x] w (Ans w (.bool (rowF T r))) := by
  refine (refRight_any h hx).mono ?_
  rintro e w' ⟨b, rfl, hb, hw⟩
  refine ⟨?_, hw⟩
  have : b = rowF T r := by
    rw [Bool.eq_iff_iff, hb, rowF_iff]
  rw [this]

def OkL (l : List Vl) : Prop := ∀ v ∈ l, okV v ∧ inV v
theorem OkL.ok {l : List Vl} (h : OkL l) : ∀ v ∈ l, okV v := fun v hv => (h v hv).1
theorem OkL.inn {l : List Vl} (h : OkL l) : ∀ v ∈ l, inV v := fun v hv => (h v hv).2
theorem cmp_tri {a b : List Vl} (ha : OkL a) (hb : OkL b) : cmpVs a b = -1 ∨ cmpVs a b = 0 ∨ cmpVs a b = 1 := by
  rw [← enc_cmp a b ha hb]; exact cb_tri _ _
theorem enc_less {p : List UInt8} {a b : List Vl} (ha : OkL a) (hb : OkL b) : Op.bytesLess (p ++ encL a) (p ++ encL b) = decide (cmpVs a b < 0) := by
  rw [less_eq, cb_pre, enc_cmp a b ha hb]
  rcases cmp_tri ha hb with h | h | h <;> rw [h] <;> decide
theorem cmpVs_app {x y : List Vl} : ∀ {a b : List Vl}, a.length = b.length → cmpVs a b ≠ 0 → cmpVs (a ++ x) (b ++ y) = cmpVs a b
  | [], [], _, h => absurd rfl h
  | [], _ :: _, h, _ => by simp at h
  | _ :: _, [], h, _ => by simp at h
  | u :: a, v :: b, hl, h => by
    rw [List.cons_append, List.cons_append]
    rw [cmpVs] at h ⊢
    rw [cmpVs]
    split
    · rfl
    · rename_i hq
      rw [if_neg hq] at h
      exact cmpVs_app (by simpa using hl) h
theorem cmpVs_swap {a b : List Vl} (ha : OkL a) (hb : OkL b) : cmpVs b a = - cmpVs a b := by
  rw [← enc_cmp a b ha hb, ← enc_cmp b a hb ha, cb_swap]

def entMore (T : Tab) (X : Idx) (r : List Vl) : List Vl := if fullB X r then [] else pickL r T.key
theorem entVals_eq (T : Tab) (X : Idx) (r : List Vl) : entVals T X r = pickL r X.cols ++ entMore T X r := by
  unfold entVals entMore
  split
  · rw [List.append_nil]
  · rfl
theorem pick_okl {T : Tab} {r : List Vl} {L : List Int} (h : RwOk T r) (hp : PlOk L T.cols.length) : OkL (pickL r L) := fun v hv =>
  ⟨pick_ok h.ok hp v hv, pick_in (by rw [h.ok.1]; exact hp) h.inn v hv⟩
theorem entVals_ok {T : Tab} {X : Idx} {r : List Vl} (ht : TiOk T X) (h : RwOk T r) : OkL (entVals T X r) := by
  rw [entVals_eq]
  intro v hv
  rcases List.mem_append.1 hv with hv | hv
  · exact pick_okl h ht.cols v hv
  · unfold entMore at hv
    split at hv
    · cases hv
    · exact pick_okl h ht.key v hv
theorem ent_less {T : Tab} {X : Idx} {r s : List Vl} (ht : TiOk T X) (hr : RwOk T r) (hs : RwOk T s) (hk : cmpVs (pickL r X.cols) (pickL s X.cols) < 0) : Op.bytesLess (entKey T X r) (entKey T X s) = true := by
  unfold entKey
  rw [enc_less (entVals_ok ht hr) (entVals_ok ht hs), entVals_eq, entVals_eq, cmpVs_app (by rw [pickL_len, pickL_len]) (by omega)]
  simpa using hk

theorem head_end (m id : Int) (hm : 0 ≤ m ∧ m < 255) : endL (headB m id) ≠ [] := fun h => by
  have h1 := endL_none _ h (UInt8.ofNat m.toNat) (List.mem_cons_self ..)
  have h2 := congrArg UInt8.toNat h1
  rw [UInt8.toNat_ofNat'] at h2
  have h3 : (255 : UInt8).toNat = 255 := rfl
  omega
theorem head_in (m id : Int) (hm : 0 ≤ m ∧ m < 255) (l : List UInt8) : Op.bytesLess (headB m id ++ l) (endL (headB m id)) = true := by
  rw [less_eq]
  exact decide_eq_true ((between _ (head_end m id hm) _).2 (List.prefix_append _ _)).2
theorem span_in {T : Tab} {a l k : List Vl} (ha : OkL a) (hl : OkL l) (hk : OkL k) :
    inSpan (nameL T a) (spLo (headB 114 T.id) l) (spHi (headB 114 T.id) k) = (decide (cmpVs l a ≤ 0) && (decide ((k.length : Int) = 0) || decide (cmpVs a k < 0))) := by
  have h1 : (!(Op.bytesLess (nameL T a) (spLo (headB 114 T.id) l))) = decide (cmpVs l a ≤ 0) := by
    unfold nameL spLo
    rw [enc_less ha hl, cmpVs_swap hl ha]
    by_cases h : cmpVs l a ≤ 0
    · rw [decide_eq_true h, decide_eq_false (by omega)]; rfl
    · rw [decide_eq_false h, decide_eq_true (by omega)]; rfl
  unfold inSpan
  rw [h1]
  congr 1
  by_cases h0 : k = []
  · subst h0
    unfold spHi nameL
    rw [if_pos rfl, head_in 114 T.id (by omega)]
    simp
  · have hk0 : ¬ (k.length : Int) = 0 := by
      have : 0 < k.length := List.length_pos_iff.2 h0
      omega
    unfold spHi nameL
    rw [if_neg h0, enc_less ha hk, decide_eq_false hk0, decide_eq_false (by unfold headB; simp)]
end Go.Proofs.YtpdmocdfnakggaaDoor

set_option linter.unusedVariables false
set_option linter.unusedSimpArgs false
set_option maxRecDepth 100000
namespace Go.Proofs.YtpdmocdfnakggaaDoor
open Go.RowKit Go.ChangeShapes Go.WideShapes Go.ChangeAt Go.Deep

section
variable {H : Type} {enc : TypeId × Value → H} {W : World}

theorem mem_weightsAll' {P : Program} {e : TypeId} {d : DataW H} : ∀ {l : List (DataW H)}, d ∈ l → ∀ n ∈ d.weights P e, n ∈ DataW.weightsAll P e l
  | a :: l, h, n, hn => by
    rw [DataW.weightsAll, List.mem_append]
    rcases List.mem_cons.1 h with rfl | h
    · exact .inl hn
    · exact .inr (mem_weightsAll' h n hn)

theorem list_in {α : Type} [Inhabited α] (R : List Value → α → Prop) (B : α → Nat → Prop) (n : Nat) (t e : TypeId) (ht : Tryd.prog.underlying t = some (.slice e)) (hcv : Tryd.prog.cellsOf e = n) (hn : 0 < n) (hbv : 0 < Tryd.prog.bytesOf e)
    (one : ∀ (m : Nat) (cs : List Value) (y : DataW H × List MemPlace), DataW.trod enc Tryd.prog W 0 (fun _ => true) true m e cs = some y → ∃ a, R cs a ∧ (cs.length = n ∧ ∀ u ∈ cs, u.oneCell' = true) ∧ ∀ K, (∀ k ∈ y.1.weights Tryd.prog e, k ≤ K) → B a K)
    {f0 : Nat} {cs : List Value} {y : DataW H × List MemPlace} (hf : DataW.trod enc Tryd.prog W 0 (fun _ => true) true f0 t cs = some y) :
    ∃ (x : Value) (M : List (List Value)) (l : List α), cs = [x] ∧ M.length = l.length ∧ Rws n W x M ∧ (∀ (i : Nat) r a, M[i]? = some r → l[i]? = some a → R r a) ∧ (l ≠ [] → ∀ k, blk x = some k → k < W.heap.size) ∧ x.oneCell' = true ∧
      ∀ K, (∀ k ∈ y.1.weights Tryd.prog t, k ≤ K) → (∀ a ∈ l, B a K) ∧ l.length ≤ K := by
  rcases open_slice ht hf with ⟨hcs, hx⟩ | ⟨x, len, cap, m, n', D, Pl, hcs, _, hl, hm, hmm, hx, hcell⟩
  · exact ⟨.slice none 0 0, [], [], hcs, rfl, Rws.nil n W, fun i r a h => by simp at h, fun h => absurd rfl h, rfl, fun K _ => ⟨fun e he => (by cases he), Nat.zero_le _⟩⟩
  · rw [hcv] at hcell
    have key : ∀ i, i < len → ∃ v : List Value × α, (∀ j u, v.1[j]? = some u → W.cell? (x.add (i * n + j)) = some u) ∧ R v.1 v.2 ∧ (v.1.length = n ∧ ∀ u ∈ v.1, u.oneCell' = true) ∧ ∀ K, (∀ k ∈ (D i).weights Tryd.prog e, k ≤ K) → B v.2 K := by
      intro i hi
      obtain ⟨cs', h1, h2⟩ := hcell i (by rw [hmm]; simp; omega)
      obtain ⟨a, hr, hw, hb⟩ := one _ _ _ h2
      obtain ⟨_, hl2, hc⟩ := World.cells?_some h1
      refine ⟨(cs', a), fun j u hu => ?_, hr, hw, hb⟩
      have hu' : cs'[j]? = some u := hu
      have hj : j < cs'.length := (List.getElem?_eq_some_iff.1 hu').1
      have := hc j (by omega)
      rw [add_add] at this
      rw [this, ← hu', List.getElem?_eq_getElem hj]
    obtain ⟨f, hf2⟩ := choose_lt key
    have hlen1 : ((List.range len).map fun i => (f i).1).length = len := by simp
    have hlen2 : ((List.range len).map fun i => (f i).2).length = len := by simp
    have hw : Wide n ((List.range len).map fun i => (f i).1) := fun r hr => by
      obtain ⟨i, hi, rfl⟩ := List.mem_map.1 hr
      exact (hf2 i (List.mem_range.1 hi)).2.2.1
    refine ⟨.slice (some x) len cap, (List.range len).map fun i => (f i).1, (List.range len).map fun i => (f i).2, hcs, by rw [hlen1, hlen2], ⟨some x, cap, by rw [hlen1], by rw [hlen1]; exact hl, hm, (fun h => by cases h), hw, fun a ha j u hu => ?_⟩, fun i r a hr ha => ?_, fun h0 k hk => ?_, rfl, fun K hK => ?_⟩
    · cases ha
      have hjl := (List.getElem?_eq_some_iff.1 hu).1
      rw [hw.len, hlen1] at hjl
      have hk : j / n < len := Nat.div_lt_of_lt_mul (by rw [Nat.mul_comm]; exact hjl)
      have h1 : ((List.range len).map fun i => (f i).1)[j / n]? = some (f (j / n)).1 := by
        rw [List.getElem?_map, List.getElem?_range hk]; rfl
      have hl9 := (hf2 (j / n) hk).2.2.1.1
      have h2 : (f (j / n)).1[j % n]? = some ((f (j / n)).1[j % n]'(by rw [hl9]; exact Nat.mod_lt _ hn)) := List.getElem?_eq_getElem _
      have h3 := hw.at h1 h2
      have e9 : j / n * n + j % n = j := by rw [Nat.mul_comm]; exact Nat.div_add_mod j n
      rw [e9, hu] at h3
      have h4 := (hf2 (j / n) hk).1 (j % n) u (by rw [h2]; exact h3.symm)
      rw [e9] at h4
      exact h4
    · have hi : i < len := by have := (List.getElem?_eq_some_iff.1 hr).1; rwa [hlen1] at this
      rw [List.getElem?_map, List.getElem?_range hi] at hr ha
      cases hr; cases ha
      exact (hf2 i hi).2.1
    · cases hk
      have h0l : 0 < len := by
        rcases Nat.eq_zero_or_pos len with e0 | e0
        · subst e0; exact absurd rfl h0
        · exact e0
      obtain ⟨q1, q2, q3, -⟩ := hf2 0 h0l
      have h5 : (f 0).1[0]? = some ((f 0).1[0]'(by rw [q3.1]; exact hn)) := List.getElem?_eq_getElem _
      have h6 := World.block_lt_of_cell? W _ (q1 0 _ h5)
      simpa [Addr.add] using h6
    · have e9 : y.1 = .slice ((List.range len).map D) ((List.range (m - len)).map fun j => D (len + j)) := congrArg Prod.fst hx
      rw [e9] at hK
      refine ⟨fun o ho => ?_, ?_⟩
      · obtain ⟨i, hi, rfl⟩ := List.mem_map.1 ho
        have hil := List.mem_range.1 hi
        refine (hf2 i hil).2.2.2 K fun k hk => hK k ?_
        simp only [DataW.weights, ht, List.mem_cons, List.mem_append]
        exact .inr (.inl (mem_weightsAll' (List.mem_map.2 ⟨i, hi, rfl⟩) k hk))
      · have h2 := hK _ (by simp only [DataW.weights, ht]; exact List.mem_cons_self)
        simp only [List.length_map, List.length_range] at h2
        rw [List.length_map, List.length_range]
        have h3 : len + (m - len) ≤ (len + (m - len)) * Tryd.prog.bytesOf e := Nat.le_mul_of_pos_right _ hbv
        omega
theorem rws_map {α : Type} {n : Nat} {x : Value} {M : List (List Value)} {l : List α} (row : α → List Value) (h : Rws n W x M) (hl : M.length = l.length) (hr : ∀ (i : Nat) r a, M[i]? = some r → l[i]? = some a → r = row a) : Rws n W x (l.map row) := by
  have hM : M = l.map row := by
    apply List.ext_getElem?
    intro i
    rcases Nat.lt_or_ge i l.length with hi | hi
    · have a1 : M[i]? = some (M[i]'(by omega)) := List.getElem?_eq_getElem (by omega)
      have a2 : l[i]? = some l[i] := List.getElem?_eq_getElem hi
      rw [List.getElem?_map, a2, a1, hr i _ _ a1 a2]; rfl
    · rw [List.getElem?_eq_none (by omega), List.getElem?_eq_none (by rw [List.length_map]; omega)]
  exact hM ▸ h

def Low (W : World) (k : Nat) : Prop := k < W.heap.size
theorem i64_in {i : Int} (h : (Lit.int .i64 i).wf = true) : i64 i := by
  have := bounds_i64 h
  exact ⟨by omega, by omega⟩
theorem zs_in {f : Nat} {cs : List Value} {y : DataW H × List MemPlace} (hf : DataW.trod enc Tryd.prog W 0 (fun _ => true) true f 23 cs = some y) :
    ∃ x l, cs = [x] ∧ ZsN (Low W) W x l ∧ x.oneCell' = true ∧ (∀ z ∈ l, i64 z) ∧ ∀ K, (∀ k ∈ y.1.weights Tryd.prog 23, k ≤ K) → l.length ≤ K := by
  obtain ⟨x, M, l, h1, h2, h3, h4, h5, h6, h7⟩ := list_in (enc := enc) (W := W) (fun r (z : Int) => r = zRow z ∧ i64 z) (fun _ _ => True) 1 23 3 Tryd.underlying23 (by kernel_rfl) (by decide) (by decide +kernel) (fun m cs y h => by
    obtain ⟨i, rfl, -, hw⟩ := DataW.trod_int Tryd.underlying3 h
    exact ⟨i, ⟨rfl, i64_in hw⟩, ⟨rfl, fun u hu => by simp at hu; subst hu; rfl⟩, fun _ _ => trivial⟩) hf
  refine ⟨x, l, h1, ⟨rws_map zRow h3 h2 (fun i r a p q => (h4 i r a p q).1), h5⟩, h6, fun z hz => ?_, fun K hK => (h7 K hK).2⟩
  obtain ⟨i, hi, rfl⟩ := List.getElem_of_mem hz
  exact (h4 i (M[i]'(by omega)) _ (List.getElem?_eq_getElem _) (List.getElem?_eq_getElem hi)).2

/-- What the parts of a struct are (their cells as they stand). -/
theorem part {m : Nat} {t : TypeId} {k o : Nat} {cs cs' : List Value} {y : DataW H × List MemPlace} (hc : Tryd.prog.cellsOf t = k) (h : DataW.trod enc Tryd.prog W 0 (fun _ => true) true m t ((cs.drop o).take (Tryd.prog.cellsOf t)) = some y) (he : (cs.drop o).take k = cs') :
    DataW.trod enc Tryd.prog W 0 (fun _ => true) true m t cs' = some y := by rw [← he, ← hc]; exact h
theorem col_in {m : Nat} {cs : List Value} {y : DataW H × List MemPlace} (h : DataW.trod enc Tryd.prog W 0 (fun _ => true) true m 58 cs = some y) :
    ∃ c : Col, (cs = colRow c ∧ i64 c.kind) ∧ (cs.length = 3 ∧ ∀ u ∈ cs, u.oneCell' = true) ∧ ∀ K, (∀ k ∈ y.1.weights Tryd.prog 58, k ≤ K) → c.name.length ≤ K := by
  have hcv : Tryd.prog.cellsOf 58 = 3 := by kernel_rfl
  obtain ⟨xs, n', rfl, rfl, hlen, hxl, hfd⟩ := DataW.trod_struct Tryd.underlying58 h
  rw [hcv] at hlen
  match cs, hlen, xs, hxl with
  | [c0, c1, c2], _, [y0, y1, y2], _ =>
    have t0 := part (k := 1) (t := 9) (cs' := [c0]) (by kernel_rfl) (hfd 0 _ rfl) rfl
    have t1 := part (k := 1) (t := 3) (cs' := [c1]) (by kernel_rfl) (hfd 1 _ rfl) rfl
    have t2 := part (k := 1) (t := 4) (cs' := [c2]) (by kernel_rfl) (hfd 2 _ rfl) rfl
    obtain ⟨s, e0, f0, hs⟩ := DataW.trod_string Tryd.underlying9 t0
    obtain ⟨i, e1, f1, hi⟩ := DataW.trod_int Tryd.underlying3 t1
    obtain ⟨b, e2, f2⟩ := DataW.trod_bool Tryd.underlying4 t2
    cases e0; cases e1; cases e2
    refine ⟨⟨s.data.toList, i, b⟩, ⟨rfl, i64_in hi⟩, ⟨rfl, fun u hu => by simp only [List.mem_cons, List.not_mem_nil, or_false] at hu; rcases hu with rfl | rfl | rfl <;> rfl⟩, fun K hK => ?_⟩
    refine hK _ ?_
    simp only [DataW.weights, Tryd.underlying58]
    refine DataW.weights_mem_each (j := 0) rfl rfl _ ?_
    rw [f0]
    simp only [DataW.weights]
    exact List.mem_cons_self
theorem cls_in {f : Nat} {cs : List Value} {y : DataW H × List MemPlace} (hf : DataW.trod enc Tryd.prog W 0 (fun _ => true) true f 22 cs = some y) :
    ∃ x l, cs = [x] ∧ ClsN (Low W) W x l ∧ x.oneCell' = true ∧ ∀ K, (∀ k ∈ y.1.weights Tryd.prog 22, k ≤ K) → (K ≤ 140737488355328 → (∀ c ∈ l, nmW c.name ∧ i64 c.kind)) ∧ l.length ≤ K := by
  letI : Inhabited Col := ⟨⟨[], 0, false⟩⟩
  obtain ⟨x, M, l, h1, h2, h3, h4, h5, h6, h7⟩ := list_in (enc := enc) (W := W) (fun r (c : Col) => r = colRow c ∧ i64 c.kind) (fun c K => c.name.length ≤ K) 3 22 58 Tryd.underlying22 (by kernel_rfl) (by decide) (by decide +kernel) (fun m cs y h => col_in h) hf
  refine ⟨x, l, h1, ⟨rws_map colRow h3 h2 (fun i r a p q => (h4 i r a p q).1), h5⟩, h6, fun K hK => ⟨fun hK2 c hc => ⟨Nat.le_trans ((h7 K hK).1 c hc) hK2, ?_⟩, (h7 K hK).2⟩⟩
  obtain ⟨i, hi, rfl⟩ := List.getElem_of_mem hc
  exact (h4 i (M[i]'(by omega)) _ (List.getElem?_eq_getElem _) (List.getElem?_eq_getElem hi)).2
theorem tab_in {m : Nat} {cs : List Value} {y : DataW H × List MemPlace} (h : DataW.trod enc Tryd.prog W 0 (fun _ => true) true m 25 cs = some y) :
    ∃ t : Tab, (TabN (Low W) W cs t) ∧ (cs.length = 4 ∧ ∀ u ∈ cs, u.oneCell' = true) ∧ ∀ K, (∀ k ∈ y.1.weights Tryd.prog 25, k ≤ K) → (K ≤ 140737488355328 → t.W) := by
  have hcv : Tryd.prog.cellsOf 25 = 4 := by kernel_rfl
  obtain ⟨xs, n', rfl, rfl, hlen, hxl, hfd⟩ := DataW.trod_struct Tryd.underlying25 h
  rw [hcv] at hlen
  match cs, hlen, xs, hxl with
  | [c0, c1, c2, c3], _, [y0, y1, y2, y3], _ =>
    have t0 := part (k := 1) (t := 3) (cs' := [c0]) (by kernel_rfl) (hfd 0 _ rfl) rfl
    have t1 := part (k := 1) (t := 9) (cs' := [c1]) (by kernel_rfl) (hfd 1 _ rfl) rfl
    have t2 := part (k := 1) (t := 22) (cs' := [c2]) (by kernel_rfl) (hfd 2 _ rfl) rfl
    have t3 := part (k := 1) (t := 23) (cs' := [c3]) (by kernel_rfl) (hfd 3 _ rfl) rfl
    obtain ⟨i0, e0, f0, g0⟩ := DataW.trod_int Tryd.underlying3 t0
    obtain ⟨s1, e1, f1, g1⟩ := DataW.trod_string Tryd.underlying9 t1
    obtain ⟨x2, l2, e2, r2, o2, k2⟩ := cls_in t2
    obtain ⟨x3, l3, e3, r3, o3, q3, k3⟩ := zs_in t3
    cases e0; cases e1; cases e2; cases e3
    refine ⟨⟨i0, s1.data.toList, l2, l3⟩, ⟨_, _, rfl, r2, r3, o2, o3⟩, ⟨rfl, fun u hu => by simp only [List.mem_cons, List.not_mem_nil, or_false] at hu; rcases hu with rfl | rfl | rfl | rfl <;> first | rfl | assumption⟩, fun K hK hK2 => ?_⟩
    have w1 : s1.data.toList.length ≤ K := hK _ (by simp only [DataW.weights, Tryd.underlying25]; refine DataW.weights_mem_each (j := 1) rfl rfl _ ?_; rw [f1]; simp only [DataW.weights]; exact List.mem_cons_self)
    have w2 := k2 K (fun k9 h9 => hK _ (by simp only [DataW.weights, Tryd.underlying25]; exact DataW.weights_mem_each (j := 2) rfl rfl _ h9))
    have w3 := k3 K (fun k9 h9 => hK _ (by simp only [DataW.weights, Tryd.underlying25]; exact DataW.weights_mem_each (j := 3) rfl rfl _ h9))
    exact ⟨i64_in g0, Nat.le_trans w1 hK2, w2.1 hK2, q3, Nat.le_trans w2.2 hK2, Nat.le_trans w3 hK2⟩
theorem idx_in {m : Nat} {cs : List Value} {y : DataW H × List MemPlace} (h : DataW.trod enc Tryd.prog W 0 (fun _ => true) true m 27 cs = some y) :
    ∃ t : Idx, (IdxN (Low W) W cs t) ∧ (cs.length = 7 ∧ ∀ u ∈ cs, u.oneCell' = true) ∧ ∀ K, (∀ k ∈ y.1.weights Tryd.prog 27, k ≤ K) → (K ≤ 140737488355328 → t.W) := by
  have hcv : Tryd.prog.cellsOf 27 = 7 := by kernel_rfl
  obtain ⟨xs, n', rfl, rfl, hlen, hxl, hfd⟩ := DataW.trod_struct Tryd.underlying27 h
  rw [hcv] at hlen
  match cs, hlen, xs, hxl with
  | [c0, c1, c2, c3, c4, c5, c6], _, [y0, y1, y2, y3, y4, y5, y6], _ =>
    have t0 := part (k := 1) (t := 3) (cs' := [c0]) (by kernel_rfl) (hfd 0 _ rfl) rfl
    have t1 := part (k := 1) (t := 3) (cs' := [c1]) (by kernel_rfl) (hfd 1 _ rfl) rfl
    have t2 := part (k := 1) (t := 9) (cs' := [c2]) (by kernel_rfl) (hfd 2 _ rfl) rfl
    have t3 := part (k := 1) (t := 23) (cs' := [c3]) (by kernel_rfl) (hfd 3 _ rfl) rfl
    have t4 := part (k := 1) (t := 4) (cs' := [c4]) (by kernel_rfl) (hfd 4 _ rfl) rfl
    have t5 := part (k := 1) (t := 3) (cs' := [c5]) (by kernel_rfl) (hfd 5 _ rfl) rfl
    have t6 := part (k := 1) (t := 4) (cs' := [c6]) (by kernel_rfl) (hfd 6 _ rfl) rfl
    obtain ⟨i0, e0, f0, g0⟩ := DataW.trod_int Tryd.underlying3 t0
    obtain ⟨i1, e1, f1, g1⟩ := DataW.trod_int Tryd.underlying3 t1
    obtain ⟨s2, e2, f2, g2⟩ := DataW.trod_string Tryd.underlying9 t2
    obtain ⟨x3, l3, e3, r3, o3, q3, k3⟩ := zs_in t3
    obtain ⟨b4, e4, f4⟩ := DataW.trod_bool Tryd.underlying4 t4
    obtain ⟨i5, e5, f5, g5⟩ := DataW.trod_int Tryd.underlying3 t5
    obtain ⟨b6, e6, f6⟩ := DataW.trod_bool Tryd.underlying4 t6
    cases e0; cases e1; cases e2; cases e3; cases e4; cases e5; cases e6
    refine ⟨⟨i0, i1, s2.data.toList, l3, b4, i5, b6⟩, ⟨_, rfl, r3, o3⟩, ⟨rfl, fun u hu => by simp only [List.mem_cons, List.not_mem_nil, or_false] at hu; rcases hu with rfl | rfl | rfl | rfl | rfl | rfl | rfl <;> first | rfl | assumption⟩, fun K hK hK2 => ?_⟩
    have w2 : s2.data.toList.length ≤ K := hK _ (by simp only [DataW.weights, Tryd.underlying27]; refine DataW.weights_mem_each (j := 2) rfl rfl _ ?_; rw [f2]; simp only [DataW.weights]; exact List.mem_cons_self)
    have w3 := k3 K (fun k9 h9 => hK _ (by simp only [DataW.weights, Tryd.underlying27]; exact DataW.weights_mem_each (j := 3) rfl rfl _ h9))
    exact ⟨i64_in g0, i64_in g1, Nat.le_trans w2 hK2, q3, i64_in g5, Nat.le_trans w3 hK2⟩
theorem table_open {base : Nat} {v : Value} {d : DataW H} {p : List MemPlace} (hw : Value.okWide Tryd.prog W .any base 25 v) (h : DataW.Trod enc Tryd.prog W 0 (fun _ => true) true 25 v d p) :
    ∃ (cs : List Value) (C : Tab), v = .agg cs.toArray ∧ TabN (Low W) W cs C ∧ ((∀ k ∈ d.weights Tryd.prog 25, k ≤ reachBytes) → C.W) := by
  unfold Value.okWide at hw
  rw [Tryd.underlying25] at hw
  obtain ⟨cs, rfl, hsz, -⟩ := hw
  obtain ⟨fuel, hf⟩ := h
  have hf1 : DataW.trod enc Tryd.prog W 0 (fun _ => true) true fuel 25 cs.toList = some (d, p) := hf
  obtain ⟨C, h1, h2, h3⟩ := tab_in hf1
  exact ⟨cs.toList, C, by simp, h1, fun hk => h3 reachBytes hk (by decide)⟩
theorem index_open {base : Nat} {v : Value} {d : DataW H} {p : List MemPlace} (hw : Value.okWide Tryd.prog W .any base 27 v) (h : DataW.Trod enc Tryd.prog W 0 (fun _ => true) true 27 v d p) :
    ∃ (cs : List Value) (C : Idx), v = .agg cs.toArray ∧ IdxN (Low W) W cs C ∧ ((∀ k ∈ d.weights Tryd.prog 27, k ≤ reachBytes) → C.W) := by
  unfold Value.okWide at hw
  rw [Tryd.underlying27] at hw
  obtain ⟨cs, rfl, hsz, -⟩ := hw
  obtain ⟨fuel, hf⟩ := h
  have hf1 : DataW.trod enc Tryd.prog W 0 (fun _ => true) true fuel 27 cs.toList = some (d, p) := hf
  obtain ⟨C, h1, h2, h3⟩ := idx_in hf1
  exact ⟨cs.toList, C, by simp, h1, fun hk => h3 reachBytes hk (by decide)⟩
end
end Go.Proofs.YtpdmocdfnakggaaDoor

