/-
  DISK: fall.
-/
import Derived.Test.YtcbbklbjfknnlaaDoorDf0
import Derived.Deep.CutBlock
import Derived.Deep.CutRange
import Derived.Sort.CutIn
set_option linter.unusedVariables false
set_option maxRecDepth 100000
namespace Go.Proofs.YtcbbklbjfknnlaaDoor
open Go.RowKit Go.Shelf
attribute [local go_sem] Oper.semAt_some

/-- What waits, taken back; what is kept of a write. -/
def tbM (S : List (List UInt8)) (xs : List Wr) : List (List UInt8) := xs.foldl (fun S x => S.set x.at' x.was) S
def cl (z : Int) : Nat := (min (max z 0) 64).toNat
def lay1 (S : List (List UInt8)) (x : Wr) (z : Int) : List (List UInt8) := S.set x.at' (x.now.take (cl z) ++ (S.getD x.at' []).drop (cl z))
def layM (S : List (List UInt8)) (Q : List Wr) (ks : List Int) : List (List UInt8) := (Q.zip ks).foldl (fun S p => lay1 S p.1 p.2) S

theorem kf_below {B : Nat} {W W' : World} (h : Below W.heap.size W W') : KeepsFrom B W W' := ⟨h.size, fun k o h1 h2 h3 => (h.block k (lt_of_block h2)).trans h2⟩
theorem tb_len (S : List (List UInt8)) (xs : List Wr) : (tbM S xs).length = S.length := by
  unfold tbM
  induction xs generalizing S with
  | nil => rfl
  | cons x xs ih => rw [List.foldl_cons, ih, List.length_set]
theorem tb_all {S : List (List UInt8)} (h : ∀ s ∈ S, s.length = 64) : ∀ {xs : List Wr}, (∀ x ∈ xs, x.was.length = 64) → ∀ s ∈ tbM S xs, s.length = 64 := by
  intro xs
  unfold tbM
  induction xs generalizing S with
  | nil => intro _; exact h
  | cons x xs ih =>
    intro hx
    rw [List.foldl_cons]
    refine ih (fun s hs => ?_) (fun y hy => hx y (by simp [hy]))
    rcases List.mem_or_eq_of_mem_set hs with hs | rfl
    · exact h s hs
    · exact hx x (by simp)
theorem tb_one {S : List (List UInt8)} {xs : List Wr} {x : Wr} : tbM S (xs ++ [x]) = (tbM S xs).set x.at' x.was := by
  unfold tbM
  rw [List.foldl_append]
  rfl

theorem sh_there {w : World} {sb : Nat} {SS : List (List UInt8)} {t : TypeId} (h : w.heap[sb]? = some (.cells (SS.flatten.map bv).toArray t (0, 0))) (hl : ∀ s ∈ SS, s.length = 64) {k : Nat} (hk : k < SS.length) : w.there sb (k * 64) 64 := fun j hj => by
  have hf := flat_len hl
  have h2 : k * 64 + j < (SS.flatten.map bv).length := by rw [List.length_map, hf]; omega
  refine ⟨?_, ?_⟩
  · unfold World.cell?
    rw [h]
    show (((SS.flatten.map bv).toArray)[k * 64 + j]?).isSome = true
    rw [List.getElem?_toArray, List.getElem?_eq_getElem h2]
    rfl
  · simp [World.frozen?, h]
theorem sh_set {w : World} {sb : Nat} {SS : List (List UInt8)} {t : TypeId} (h : w.heap[sb]? = some (.cells (SS.flatten.map bv).toArray t (0, 0))) (hall : ∀ s ∈ SS, s.length = 64) {k : Nat} (hk : k < SS.length) {l : List UInt8} (hl : l.length = 64) :
    (w.setCells sb (k * 64) (l.map bv)).heap[sb]? = some (.cells ((SS.set k l).flatten.map bv).toArray t (0, 0)) := by
  have hfl := flat_len hall
  obtain ⟨c', h1, -, h3⟩ := setCells_at (l.map bv) (k * 64) w _ h (by rw [List.length_map, hl, List.size_toArray, List.length_map, hfl]; omega)
  have e : c' = ((SS.set k l).flatten.map bv).toArray := by
    apply Array.ext_getElem?
    intro j
    rw [h3 j, List.length_map, hl]
    by_cases hj : k * 64 ≤ j ∧ j < k * 64 + 64
    · rw [if_pos hj, List.getElem?_map, List.getElem?_toArray, List.getElem?_map, flat_set hall hk hl j, if_pos hj]
    · rw [if_neg hj, List.getElem?_toArray, List.getElem?_toArray, List.getElem?_map, List.getElem?_map, flat_set hall hk hl j, if_neg hj]
  rw [h1, e]
theorem sh_part {w : World} {sb : Nat} {SS : List (List UInt8)} {t : TypeId} (h : w.heap[sb]? = some (.cells (SS.flatten.map bv).toArray t (0, 0))) (hall : ∀ s ∈ SS, s.length = 64) {k : Nat} (hk : k < SS.length) {p : List UInt8} (hp : p.length ≤ 64) :
    (w.setCells sb (k * 64) (p.map bv)).heap[sb]? = some (.cells ((SS.set k (p ++ (SS.getD k []).drop p.length)).flatten.map bv).toArray t (0, 0)) := by
  have hfl := flat_len hall
  have hko := List.getElem?_eq_getElem hk
  generalize SS[k] = old at *
  have hol : old.length = 64 := hall old (List.mem_of_getElem? hko)
  have hgd : SS.getD k [] = old := by rw [List.getD, hko]; rfl
  rw [hgd]
  have hl : (p ++ old.drop p.length).length = 64 := by rw [List.length_append, List.length_drop, hol]; omega
  obtain ⟨c', h1, -, h3⟩ := setCells_at (p.map bv) (k * 64) w _ h (by rw [List.length_map, List.size_toArray, List.length_map, hfl]; omega)
  have e : c' = ((SS.set k (p ++ old.drop p.length)).flatten.map bv).toArray := by
    apply Array.ext_getElem?
    intro j
    rw [h3 j, List.length_map]
    by_cases hj : k * 64 ≤ j ∧ j < k * 64 + p.length
    · rw [if_pos hj, List.getElem?_map, List.getElem?_toArray, List.getElem?_map, flat_set hall hk hl j, if_pos (by omega), List.getElem?_append_left (by omega)]
    · rw [if_neg hj, List.getElem?_toArray, List.getElem?_toArray, List.getElem?_map, List.getElem?_map, flat_set hall hk hl j]
      by_cases hj2 : k * 64 ≤ j ∧ j < k * 64 + 64
      · rw [if_pos hj2, List.getElem?_append_right (by omega), List.getElem?_drop]
        have h9 := flat_at hall hko (j - k * 64) (by omega)
        rw [show k * 64 + (j - k * 64) = j from by omega] at h9
        rw [h9]
        congr 2
        omega
      · rw [if_neg hj2]
  rw [h1, e]
theorem wpList_load_run {P : Program} {w : World} {ops : Array Oper} {rest : List Oper} {o : Oper} {a : Act} {Q : Exit → Act → World → Prop} (hg : o.guard = none) (t : TypeId) (x : Operand) (hop : o.op = .load t x) (v : Value)
    (hrun : (Instr.loadAt t (a.eval x)).run P w = .ok v w) (hK : wpList P ops Q rest (a.put o.dst v) w) : wpList P ops Q (o :: rest) a w :=
  wpList_plain hg fun K hK' => by
    unfold Oper.wp
    rw [exec_load hop hrun]
    exact hK' _ _ hK
theorem wpList_store_run {P : Program} {w w' : World} {ops : Array Oper} {rest : List Oper} {o : Oper} {a : Act} {Q : Exit → Act → World → Prop} (hg : o.guard = none) (t : TypeId) (x y : Operand) (hop : o.op = .store t x y)
    (hrun : (Instr.storeAt t (a.eval x) (a.eval y)).run P w = .ok () w') (hK : wpList P ops Q rest (a.put o.dst undef) w') : wpList P ops Q (o :: rest) a w :=
  wpList_plain hg fun K hK' => by
    unfold Oper.wp
    rw [exec_store hop hrun]
    exact hK' _ _ hK
theorem exec_copy {P : Program} {ρ : Operand → Value} {o : Oper} {t1 t2 : TypeId} {s x : Operand} {v : Value} {W W' : World} (ho : o.op = .call { callee := .builtin .copy, args := #[s, x], argTypes := #[t1, t2] }) (h : (Builtin.copy_ #[t1, t2] o.type #[ρ s, ρ x]).run P W = .ok v W') : (execOp ρ o).run P W = .ok (.value v) W' := by
  unfold execOp
  simp only [ho, resolve, invoke, builtin, Sem.run_bind, Sem.run_pure, Result.andThen_ok, List.map_toArray, List.map_cons, List.map_nil, h]
theorem cl_int (z : Int) : (cl z : Int) = min (max z 0) 64 := by unfold cl; omega
theorem cl_le (z : Int) : cl z ≤ 64 := by unfold cl; omega
theorem take_next {α : Type} {L : List α} {k : Nat} {x : α} (h : L[k]? = some x) : L.take (k + 1) = L.take k ++ [x] := by rw [List.take_add_one, h]; rfl
theorem lay_next {S : List (List UInt8)} {Q : List Wr} {ks : List Int} {k : Nat} {y : Wr} {z : Int} (h1 : Q[k]? = some y) (h2 : ks[k]? = some z) : layM S (Q.take (k + 1)) (ks.take (k + 1)) = lay1 (layM S (Q.take k) (ks.take k)) y z := by
  have a1 := (List.getElem?_eq_some_iff.1 h1).1
  have a2 := (List.getElem?_eq_some_iff.1 h2).1
  unfold layM
  rw [take_next h1, take_next h2, List.zip_append (by rw [List.length_take, List.length_take]; omega), List.foldl_append]
  rfl
theorem lay_all (S : List (List UInt8)) (Q : List Wr) (ks : List Int) : layM S (Q.take (min ks.length Q.length)) (ks.take (min ks.length Q.length)) = layM S Q ks := by
  unfold layM
  rw [Nat.min_comm, ← List.zip_eq_zip_take_min]

theorem kpX_setCells {b n : Nat} : ∀ (vs : List Value) (o : Nat) (w0 w : World), n ≤ w.heap.size → KpX b n w0 w → KpX b n w0 (w.setCells b o vs)
  | [], _, _, _, _, h => h
  | v :: r, o, w0, w, hn, h => by
    rw [World.setCells]
    have hg := grown_set w ⟨b, o, none⟩ v
    exact kpX_setCells r (o + 1) w0 _ (Nat.le_trans hn hg.size) (h.trans (KpX.grown hg hn (fun k e => by cases e; exact .inr rfl)))
theorem kf_kpX {b n : Nat} {w w' : World} {c : Array Value} {t : TypeId} {fr : Nat × Nat} (hb : w.heap[b]? = some (.cells c t fr)) (h : KpX b w.heap.size w w') : KeepsFrom n w w' := ⟨h.size, fun k o h1 h2 h3 => by
  rw [h.block k (lt_of_block h2) (fun e => by
    subst e
    rw [hb] at h2
    cases h2
    cases h3)]
  exact h2⟩

/-- A number's cell does not lie among bytes. -/
theorem int_off {w : World} {sb : Nat} {L : List UInt8} {t : TypeId} (h : w.heap[sb]? = some (.cells (L.map bv).toArray t (0, 0))) {a : Addr} {z : Int} (hc : w.cell? a = some (.int .i64 z)) : a.block ≠ sb := fun e => by
  obtain ⟨b, o, sp⟩ := a
  subst e
  cases sp with
  | some s => have := World.cell?_spot hc; cases this
  | none =>
    unfold World.cell? at hc
    simp only at hc
    rw [h] at hc
    change ((L.map bv).toArray)[o]? = _ at hc
    rw [List.getElem?_toArray, List.getElem?_map] at hc
    cases hl : L[o]? with
    | none => rw [hl] at hc; cases hc
    | some c => rw [hl] at hc; simp [bv] at hc

theorem ints_keep {w2 W : World} {sb : Nat} {L : List UInt8} {t : TypeId} {x : Value} {ks : List Int} (h : Rws 1 w2 x (ks.map fun z => [.int .i64 z])) (hs : w2.heap[sb]? = some (.cells (L.map bv).toArray t (0, 0))) (hk : KpX sb w2.heap.size w2 W) : Rws 1 W x (ks.map fun z => [.int .i64 z]) := by
  obtain ⟨ao, c, e, q1, q2, q3, q5, q4⟩ := h
  refine ⟨ao, c, e, q1, q2, q3, q5, fun a ha j u hu => ?_⟩
  have h6 := q4 a ha j u hu
  obtain ⟨z, rfl⟩ : ∃ z, u = .int .i64 z := by
    obtain ⟨r, hr, hu2⟩ := List.mem_flatten.1 (List.mem_of_getElem? hu)
    obtain ⟨z, hz, rfl⟩ := List.mem_map.1 hr
    exact ⟨z, by simpa using hu2⟩
  rw [World.cell?_of_block (w := w2) (a := a.add j) (hk.block _ (World.block_lt_of_cell? w2 _ h6) (int_off hs h6))]
  exact h6
theorem Dk.relaid {base : Nat} {w W : World} {db sb n : Nat} {vw : Value} {S S' : List (List UInt8)} {Q : List Wr} {dn : Bool} {lf : Nat} (h : Dk base w db sb n vw S Q dn lf) (hk : KpX sb w.heap.size w W) (hs : W.heap[sb]? = some (.cells (S'.flatten.map bv).toArray 82 (0, 0))) (hl : S'.length = S.length) (ha : ∀ s ∈ S', s.length = 64) : Dk base W db sb n vw S' Q dn lf := by
  refine ⟨h.lo, ?_, hs, ⟨h.wa.1, h.wa.2.imp id fun ⟨g, cap, cur, a, b, c, d⟩ => ⟨g, cap, cur, a, b, by
    rw [hk.block g (lt_of_block c) (fun e => h.apart.2.2 (by rw [a, e]; rfl))]
    exact c, d⟩⟩, ha, fun z hz => h.ok z hz, by rw [hl]; exact h.few⟩
  rw [hl]
  exact (hk.block db (lt_of_block h.hd) h.apart.1).trans h.hd
theorem lay1_len (S : List (List UInt8)) (x : Wr) (z : Int) : (lay1 S x z).length = S.length := by unfold lay1; rw [List.length_set]
theorem lay1_all {S : List (List UInt8)} (h : ∀ s ∈ S, s.length = 64) {x : Wr} (hx : x.at' < S.length ∧ x.now.length = 64) (z : Int) : ∀ s ∈ lay1 S x z, s.length = 64 := fun s hs => by
  unfold lay1 at hs
  rcases List.mem_or_eq_of_mem_set hs with hs | rfl
  · exact h s hs
  · have h1 : (S.getD x.at' []).length = 64 := by
      rw [List.getD, List.getElem?_eq_getElem hx.1]
      exact h _ (List.getElem_mem hx.1)
    have h2 := cl_le z
    rw [List.length_append, List.length_take, List.length_drop, h1, hx.2]
    omega
theorem Dk.rows {base : Nat} {w : World} {db sb n : Nat} {vw : Value} {S : List (List UInt8)} {Q : List Wr} {dn : Bool} {lf : Nat} (h : Dk base w db sb n vw S Q dn lf) : Rws 129 w vw (Q.map rowW) :=
  Rws.own (by rw [List.length_map]; exact h.wa) (fun r hr => by
    obtain ⟨y, hy, rfl⟩ := List.mem_map.1 hr
    have := h.ok y hy
    exact ⟨by simp [rowW, this.2.1, this.2.2], rowW_one y⟩)
section
variable {base : Nat} {w : World} {db sb n : Nat} {vw : Value} {S : List (List UInt8)} {Q : List Wr} {dn : Bool} {lf : Nat}

set_option maxHeartbeats 16000000 in
theorem fall_gen (h : Dk base w db sb n vw S Q dn lf) (x : Value) (ks : List Int) (hx : Rws 1 w x (ks.map fun z => [.int .i64 z])) (hq : Q.length ≤ 100000) :
    Calls Tryd.prog 31 #[.pointer (some ⟨db, 0, none⟩), x] w (fun e w' => e = .returned (.tuple #[]) ∧ Dk base w' db sb n (.slice none 0 0) (layM (tbM S Q.reverse) Q ks) [] dn lf ∧ Dfr db sb vw (.slice none 0 0) w w') := by
  obtain ⟨vo, vc, rfl⟩ := wait_form h
  obtain ⟨xo, xc, hxe, hxl, hxm⟩ := hx.form
  rw [List.length_map] at hxe hxl
  subst hxe
  have hb1 : Below w.heap.size w (w.alloc (.cells #[.pointer (some ⟨db, 0, none⟩)] 24)) := (Below.refl _ _).alloc (Nat.le_refl _) _
  have hx1 : (w.alloc (.cells #[.pointer (some ⟨db, 0, none⟩)] 24)).heap[w.heap.size]? = some (.cells #[.pointer (some ⟨db, 0, none⟩)] 24 (0, 0)) := heap_alloc_new _ _
  have hd1 := h.old hb1
  obtain ⟨c0, c1, c2, c3, f0, f1, f2, f3⟩ := four_cells hd1.hd
  have H := hid h
  have HX := hid hx
  clear h hx
  refine calls_marks Tryd.func31 rfl ?_
  simp only [Tryd.ntmps31, List.size_toArray, List.length_cons, List.length_nil, Nat.reduceAdd, Nat.reduceSub, Array.replicate_succ, Array.replicate_zero, List.push_toArray, List.append_toArray, List.nil_append, List.cons_append]
  go_upto_region 1 with fail
  generalize w.alloc (.cells #[.pointer (some ⟨db, 0, none⟩)] 24) = w1 at *
  have d0 : w1.cell? ⟨w.heap.size, 0, none⟩ = some (.pointer (some ⟨db, 0, none⟩)) := by simp [World.cell?, hx1]
  go_wp2_with (first | (go_at_call 49; refine (backW_any _ _ _ _).mono ?_; rintro e w2 ⟨rfl, rfl⟩))
  have hb2 : Below w1.heap.size w1 (w1.alloc (.cells #[.slice vo Q.length vc] 50)) := (Below.refl _ _).alloc (Nat.le_refl _) _
  have hx2 : (w1.alloc (.cells #[.slice vo Q.length vc] 50)).heap[w1.heap.size]? = some (.cells #[.slice vo Q.length vc] 50 (0, 0)) := heap_alloc_new _ _
  generalize w1.alloc (.cells #[.slice vo Q.length vc] 50) = w2 at *
  have HD2 := hid (hd1.old hb2)
  have HX2 := hid ((HX.out.old hb1).old hb2)
  have hx12 := (hb2.block _ (lt_of_block hx1)).trans hx1
  have HBD := hid hx12
  have HBX := hid hx2
  have HB2 := hid (hb1.trans (hb2.mono hb1.size))
  clear c0 c1 c2 c3 f0 f1 f2 f3 d0 hd1 hb1 hx1 hb2 hx2 hx12
  obtain ⟨Bn, hBn⟩ : ∃ Bn, Bn = w1.heap.size := ⟨_, rfl⟩
  rw [← hBn] at HBX ⊢
  clear hBn
  have hsb2 : sb < w2.heap.size := lt_of_block HD2.out.sh
  have hbdlt : w.heap.size < w2.heap.size := lt_of_block HBD.out
  have hBnlt : Bn < w2.heap.size := lt_of_block HBX.out
  have hbdne : w.heap.size ≠ sb := fun e => by
    have h1 := HBD.out
    rw [e, HD2.out.sh] at h1
    simp at h1
  have hBnne : Bn ≠ sb := fun e => by
    have h1 := HBX.out
    rw [e, HD2.out.sh] at h1
    simp at h1
  have hdbne : db ≠ sb := HD2.out.apart.1
  have hdblt : db < w2.heap.size := lt_of_block HD2.out.hd
  have hrow : ∀ y ∈ Q, (rowW y).length = 129 := fun y hy => by
    have := HD2.out.ok y hy
    simp [rowW, this.2.1, this.2.2]
  have keepRow : ∀ W, KpX sb w2.heap.size w2 W → Rws 129 W (.slice vo Q.length vc) (Q.map rowW) := fun W hk => by
    have ho : W.ownsRow base 84 129 (.slice vo Q.length vc) Q.length (Q.map rowW).flatten := ⟨HD2.out.wa.1, HD2.out.wa.2.imp id fun ⟨g, cap, cur, a, b, c, d⟩ => ⟨g, cap, cur, a, b, by
      rw [hk.block g (lt_of_block c) (fun e => HD2.out.apart.2.2 (by rw [a, e]; rfl))]
      exact c, d⟩⟩
    exact Rws.own (by rw [List.length_map]; exact ho) (fun r hr => by
      obtain ⟨y, hy, rfl⟩ := List.mem_map.1 hr
      exact ⟨hrow y hy, rowW_one y⟩)
  refine wpIn_wide.1 (range_outer (n := 9) rfl (by omega) (gf := 65) (lb := #[.pointer (some ⟨Bn, 0, none⟩)]) ?hg trivial (enters_of Tryd.func65 (by kernel_rfl) rfl)
    (encs := fun x : Nat × Wr => #[.int .i64 (x.1 : Int), .agg (rowW x.2).toArray]) (Kp := KpX sb w2.heap.size) (Rx := RxB Q) (S := fun xs => xs.map (·.2) = Q.reverse) (Sp := fun pre => pre.map (·.2) <+: Q.reverse) (w0 := w2)
    ?hseq (fun h k => h.trans k) (fun W W' l hl ht => KpX.turn ht hl) (Below.refl _ _) (fun _ => rfl)
    (fun pre W => KpX sb w2.heap.size w2 W ∧ W.heap[sb]? = some (.cells ((tbM S (pre.map (·.2))).flatten.map bv).toArray 82 (0, 0)) ∧ ∀ z ∈ pre.map (·.2), z.was.length = 64) (fun _ _ _ => False)
    ?hI (fun c pre W W' row hs _ _ => hs) ?h0 ?round ?done (fun D c pre W _ _ h _ => h.elim))
  case hg => rfl
  case hseq =>
    intro l J Jx W hW hJo hJxo hY h0
    refine backW_in (9 - 1) (by omega) l Bn sb w2.heap.size (.slice vo Q.length vc) Q J Jx W (by omega) hW.size hY (fun W' hk => ?_) h0
    have hk2 : KpX sb w2.heap.size w2 W' := (KpX.of hW (Nat.le_refl _)).trans hk
    refine ⟨?_, keepRow W' hk2, hrow⟩
    have h9 := (hk2.block Bn hBnlt hBnne).trans HBX.out
    simp [World.cell?, h9]
  case hI =>
    intro pre W W' row hs hg hr
    exact ⟨hs.1.trans (KpX.grown hg hs.1.size (fun k e => .inl (hr k e).1)), heap_kept hg hs.2.1 (fun e => by have := (hr sb e.symm).1; omega), hs.2.2⟩
  case h0 => exact ⟨KpX.refl _ _ _, HD2.out.sh, fun z hz => by cases hz⟩
  case round =>
    rintro l pre ⟨i0, y⟩ W hl hr ⟨hk, hsb, hpw⟩ hx
    have HRX : Hid (Q.reverse[pre.length]? = some y) := hx
    have hyQ : y ∈ Q := List.mem_reverse.1 (List.mem_of_getElem? hx)
    have hyo := HD2.out.ok y hyQ
    have hyl := hrow y hyQ
    have hst : (Instr.storeAt 84 (.pointer (some ⟨W.heap.size, 0, none⟩)) (.agg (rowW y).toArray)).run Tryd.prog (W.alloc (.cells Tryd.zeroCells84 84)) = .ok () (W.alloc (.cells (rowW y).toArray 84)) :=
      run_storeAt_new (P := Tryd.prog) W 84 Tryd.zeroCells84 (rowW y).toArray (by rw [size_write, List.size_toArray, hyl]) (by rw [zero_write, List.size_toArray, hyl]) (all_oneCell_toArray (rowW_one y))
    have HST := hid hst
    have HK := hid hk
    have HSB := hid hsb
    clear hst hk hsb hx hr
    gi_wp2_with (first | (refine wpListIn_store rfl 84 (.tmp 5) (.tmp 15) rfl HST.out ?_))
    have hbA : Below W.heap.size W (W.alloc (.cells (rowW y).toArray 84)) := (Below.refl _ _).alloc (Nat.le_refl _) _
    have hxA : (W.alloc (.cells (rowW y).toArray 84)).heap[W.heap.size]? = some (.cells (rowW y).toArray 84 (0, 0)) := heap_alloc_new _ _
    have hsW : w2.heap.size ≤ W.heap.size := HK.out.size
    refine ⟨kf_below hbA, KpX.of hbA hsW, fun Wb hT => ?_⟩
    generalize W.alloc (.cells (rowW y).toArray 84) = WA at *
    have hsA : w2.heap.size ≤ WA.heap.size := Nat.le_trans hsW hbA.size
    have hKb : KpX sb w2.heap.size w2 Wb := (HK.out.trans (KpX.of hbA hsW)).trans (KpX.turn hT hl)
    have hlsb : sb ≠ l := by omega
    have hSBb : Wb.heap[sb]? = some (.cells ((tbM S (pre.map (·.2))).flatten.map bv).toArray 82 (0, 0)) := heap_kept hT.grown ((hbA.block _ (lt_of_block HSB.out)).trans HSB.out) (fun e => hlsb (by cases e; rfl))
    have hxB : Wb.heap[W.heap.size]? = some (.cells (rowW y).toArray 84 (0, 0)) := heap_kept hT.grown hxA (fun e9 => by
      cases e9
      obtain ⟨o, ho, hc⟩ := hT.old
      rw [hxA] at ho
      cases ho
      cases hc)
    have hlen9 : (tbM S (pre.map (·.2))).length = S.length := tb_len _ _
    obtain ⟨SS, hSS⟩ : ∃ SS, SS = tbM S (pre.map (·.2)) := ⟨_, rfl⟩
    rw [← hSS] at hSBb hlen9
    have hall : ∀ s ∈ SS, s.length = 64 := by rw [hSS]; exact tb_all HD2.out.len hpw
    have hdB : Wb.heap[db]? = some (.cells #[.slice (some ⟨sb, 0, none⟩) n S.length, .slice vo Q.length vc, .bool dn, .int .i64 (lf : Int)] 52 (0, 0)) := (hKb.block db hdblt hdbne).trans HD2.out.hd
    have hbB : Wb.heap[w.heap.size]? = some (.cells #[.pointer (some ⟨db, 0, none⟩)] 24 (0, 0)) := (hKb.block _ hbdlt hbdne).trans HBD.out
    have e1 : Wb.cell? ⟨w.heap.size, 0, none⟩ = some (.pointer (some ⟨db, 0, none⟩)) := by simp [World.cell?, hbB]
    have e2 := (four_cells hdB).1
    have e3 : Wb.cell? ⟨W.heap.size, 0, none⟩ = some (.int .i64 (y.at' : Int)) := by
      unfold World.cell?
      rw [hxB]
      rfl
    have e4 : Wb.rangeAt W.heap.size 1 (y.was.map bv) := fun j v hv => by
      unfold World.cell?
      rw [hxB]
      show (rowW y).toArray[1 + j]? = some v
      rw [List.getElem?_toArray]
      unfold rowW
      rw [show 1 + j = j + 1 from by omega, List.getElem?_cons_succ, List.getElem?_append_left (by have := (List.getElem?_eq_some_iff.1 hv).1; exact this)]
      exact hv
    have hwne : W.heap.size ≠ sb := by omega
    have hyn : y.at' < n := hyo.1
    have hnS : n ≤ S.length := HD2.out.few.1
    have hyS : y.at' < S.length := by omega
    have hyi : (y.at' : Int) < (n : Int) := by omega
    have HKb := hid hKb
    have HSBb := hid hSBb
    have HdB := hid hdB
    have HbB := hid hbB
    have HxB := hid hxB
    clear hT hbA hxA hKb hSBb hdB hbB hxB
    gi_upto_region 3 with fail
    obtain ⟨S9, hS9⟩ : ∃ S9 : World → Prop, S9 = fun V => V.cell? ⟨w.heap.size, 0, none⟩ = some (.pointer (some ⟨db, 0, none⟩)) ∧ V.cell? ⟨db, 0, none⟩ = some (.slice (some ⟨sb, 0, none⟩) n S.length) ∧ V.cell? ⟨W.heap.size, 0, none⟩ = some (.int .i64 (y.at' : Int)) ∧ V.rangeAt W.heap.size 1 (y.was.map bv) := ⟨_, rfl⟩
    have hY : ∀ V, S9 V → V.cell? ⟨w.heap.size, 0, none⟩ = some (.pointer (some ⟨db, 0, none⟩)) ∧ V.cell? ⟨db, 0, none⟩ = some (.slice (some ⟨sb, 0, none⟩) n S.length) ∧ V.cell? ⟨W.heap.size, 0, none⟩ = some (.int .i64 (y.at' : Int)) ∧ V.rangeAt W.heap.size 1 (y.was.map bv) := fun V h => by rw [hS9] at h; exact h
    have hY2 : ∀ V, V.cell? ⟨w.heap.size, 0, none⟩ = some (.pointer (some ⟨db, 0, none⟩)) → V.cell? ⟨db, 0, none⟩ = some (.slice (some ⟨sb, 0, none⟩) n S.length) → V.cell? ⟨W.heap.size, 0, none⟩ = some (.int .i64 (y.at' : Int)) → V.rangeAt W.heap.size 1 (y.was.map bv) → S9 V := fun V h1 h2 h3 h4 => by rw [hS9]; exact ⟨h1, h2, h3, h4⟩
    clear hS9
    refine region_held_in (S := S9) (by kernel_rfl) ?hlo (simple_all (by rfl)) (hY2 _ e1 e2 e3 (by rw [World.rangeAt_drew]; exact e4)) (fun hX9 => ?_)
    case hlo =>
      rintro ⟨a9, w9, h9⟩
      exact h9
    refine wpAnyH_take (i := 0) (v := (.pointer (some ⟨db, 0, none⟩))) rfl (by kernel_rfl) (by kernel_rfl) (by kernel_rfl) (fun _ _ _ h => (show False from h).elim) ?xyR0 ?xhR0 ?xrR0
    case xhR0 => exact hX9
    case xyR0 => exact Or.inl ⟨by rfl, fun W9 hW => by obtain ⟨hc1, hc2, hc3, -⟩ := hY W9 hW; clear hY hY2 hX9; simp only [List.getElem_toArray, List.getElem_cons_succ, List.getElem_cons_zero]; go_simp⟩
    simp only [Act.put, List.getElem_toArray, List.getElem_cons_succ, List.getElem_cons_zero, List.setIfInBounds_toArray, List.set_cons_succ, List.set_cons_zero]
    refine wpAnyH_take (i := 1) (v := (.pointer (some ⟨db, 0, none⟩))) rfl (by kernel_rfl) (by kernel_rfl) (by kernel_rfl) (fun _ _ _ h => (show False from h).elim) ?xyR1 ?xhR1 ?xrR1
    case xhR1 => exact hX9
    case xyR1 => exact Or.inl ⟨by rfl, fun W9 hW => by obtain ⟨hc1, hc2, hc3, -⟩ := hY W9 hW; clear hY hY2 hX9; simp only [List.getElem_toArray, List.getElem_cons_succ, List.getElem_cons_zero]; go_simp⟩
    simp only [Act.put, List.getElem_toArray, List.getElem_cons_succ, List.getElem_cons_zero, List.setIfInBounds_toArray, List.set_cons_succ, List.set_cons_zero]
    refine wpAnyH_take (i := 2) (v := (.pointer (some ⟨db, 0, none⟩))) rfl (by kernel_rfl) (by kernel_rfl) (by kernel_rfl) (fun _ _ _ h => (show False from h).elim) ?xyR2 ?xhR2 ?xrR2
    case xhR2 => exact hX9
    case xyR2 => exact Or.inl ⟨by rfl, fun W9 hW => by obtain ⟨hc1, hc2, hc3, -⟩ := hY W9 hW; clear hY hY2 hX9; simp only [List.getElem_toArray, List.getElem_cons_succ, List.getElem_cons_zero]; go_simp⟩
    simp only [Act.put, List.getElem_toArray, List.getElem_cons_succ, List.getElem_cons_zero, List.setIfInBounds_toArray, List.set_cons_succ, List.set_cons_zero]
    refine wpAnyH_take (i := 3) (v := (.slice (some ⟨sb, 0, none⟩) n S.length)) rfl (by kernel_rfl) (by kernel_rfl) (by kernel_rfl) (fun _ _ _ h => (show False from h).elim) ?xyR3 ?xhR3 ?xrR3
    case xhR3 => exact hX9
    case xyR3 => exact Or.inl ⟨by rfl, fun W9 hW => by obtain ⟨hc1, hc2, hc3, -⟩ := hY W9 hW; clear hY hY2 hX9; simp only [List.getElem_toArray, List.getElem_cons_succ, List.getElem_cons_zero]; go_simp⟩
    simp only [Act.put, List.getElem_toArray, List.getElem_cons_succ, List.getElem_cons_zero, List.setIfInBounds_toArray, List.set_cons_succ, List.set_cons_zero]
    refine wpAnyH_take (i := 4) (v := (.pointer (some ⟨W.heap.size, 0, none⟩))) rfl (by kernel_rfl) (by kernel_rfl) (by kernel_rfl) (fun _ _ _ h => (show False from h).elim) ?xyR4 ?xhR4 ?xrR4
    case xhR4 => exact hX9
    case xyR4 => exact Or.inl ⟨by rfl, fun W9 hW => by obtain ⟨hc1, hc2, hc3, -⟩ := hY W9 hW; clear hY hY2 hX9; simp only [List.getElem_toArray, List.getElem_cons_succ, List.getElem_cons_zero]; go_simp⟩
    simp only [Act.put, List.getElem_toArray, List.getElem_cons_succ, List.getElem_cons_zero, List.setIfInBounds_toArray, List.set_cons_succ, List.set_cons_zero]
    refine wpAnyH_take (i := 5) (v := (.int .i64 (y.at' : Int))) rfl (by kernel_rfl) (by kernel_rfl) (by kernel_rfl) (fun _ _ _ h => (show False from h).elim) ?xyR5 ?xhR5 ?xrR5
    case xhR5 => exact hX9
    case xyR5 => exact Or.inl ⟨by rfl, fun W9 hW => by obtain ⟨hc1, hc2, hc3, -⟩ := hY W9 hW; clear hY hY2 hX9; simp only [List.getElem_toArray, List.getElem_cons_succ, List.getElem_cons_zero]; go_simp⟩
    simp only [Act.put, List.getElem_toArray, List.getElem_cons_succ, List.getElem_cons_zero, List.setIfInBounds_toArray, List.set_cons_succ, List.set_cons_zero]
    refine wpAnyH_take (i := 6) (v := (.pointer (some ⟨W.heap.size, 1, none⟩))) rfl (by kernel_rfl) (by kernel_rfl) (by kernel_rfl) (fun _ _ _ h => (show False from h).elim) ?xyR6 ?xhR6 ?xrR6
    case xhR6 => exact hX9
    case xyR6 => exact Or.inl ⟨by rfl, fun W9 hW => by obtain ⟨hc1, hc2, hc3, -⟩ := hY W9 hW; clear hY hY2 hX9; simp only [List.getElem_toArray, List.getElem_cons_succ, List.getElem_cons_zero]; go_simp⟩
    simp only [Act.put, List.getElem_toArray, List.getElem_cons_succ, List.getElem_cons_zero, List.setIfInBounds_toArray, List.set_cons_succ, List.set_cons_zero]
    refine wpAnyH_take (i := 7) (v := (.agg (y.was.map bv).toArray)) rfl (by kernel_rfl) (by kernel_rfl) (by kernel_rfl) (fun _ _ _ h => (show False from h).elim) ?xyR7 ?xhR7 ?xrR7
    case xhR7 => exact hX9
    case xyR7 => exact Or.inl ⟨by rfl, fun W9 hW => by simp only [List.getElem_toArray, List.getElem_cons_succ, List.getElem_cons_zero]; exact exec_load (t := 82) (x := .tmp 22) rfl (run_loadAt_mid W9 W.heap.size 1 82 (y.was.map bv) _ (hY W9 hW).2.2.2 Tryd.underlying82 rfl (by rw [size_sector, List.length_map, hyo.2.1]))⟩
    simp only [Act.put, List.getElem_toArray, List.getElem_cons_succ, List.getElem_cons_zero, List.setIfInBounds_toArray, List.set_cons_succ, List.set_cons_zero]
    refine wpAnyH_take (i := 8) (v := (.pointer (some ⟨sb, y.at' * 64, none⟩))) rfl (by kernel_rfl) (by kernel_rfl) (by kernel_rfl) (fun _ _ _ h => (show False from h).elim) ?xyR8 ?xhR8 ?xrR8
    case xhR8 => exact hX9
    case xyR8 => exact Or.inl ⟨by rfl, fun W9 hW => by obtain ⟨hc1, hc2, hc3, -⟩ := hY W9 hW; clear hY hY2 hX9; simp only [List.getElem_toArray, List.getElem_cons_succ, List.getElem_cons_zero]; go_simp⟩
    simp only [Act.put, List.getElem_toArray, List.getElem_cons_succ, List.getElem_cons_zero, List.setIfInBounds_toArray, List.set_cons_succ, List.set_cons_zero]
    refine wpAnyH_all (rs := [9]) (by kernel_rfl) (by simp) (fun i hi => ?_)
    obtain rfl : i = 9 := by simpa using hi
    unfold wpOp
    simp only [List.getElem?_toArray, List.getElem?_cons_succ, List.getElem?_cons_zero]
    rw [if_pos (by rfl)]
    unfold Oper.wp
    have hst := run_storeAt_mid (P := Tryd.prog) Wb.drew sb (y.at' * 64) 82 (y.was.map bv).toArray (by rw [World.there_drew]; simpa [hyo.2.1] using sh_there HSBb.out hall (hlen9 ▸ hyS)) (by rw [size_sector]; simp [hyo.2.1]) (all_oneCell_toArray (bv_one _))
    rw [exec_store (t := 82) (x := .tmp 24) (y := .tmp 23) rfl hst]
    simp only [Oper.upon, List.toList_toArray]
    have hfin := sh_set (w := Wb.drew) HSBb.out hall (hlen9 ▸ hyS) hyo.2.1
    have hkp : KpX sb Wb.heap.size Wb (Wb.drew.setCells sb (y.at' * 64) (y.was.map bv)) := kpX_setCells _ _ _ _ (Nat.le_refl _) ⟨rfl, rfl, rfl, Nat.le_refl _, fun _ _ _ => rfl⟩
    have hcell : ∀ (b o : Nat), b ≠ sb → b < Wb.heap.size → (Wb.drew.setCells sb (y.at' * 64) (y.was.map bv)).cell? ⟨b, o, none⟩ = Wb.cell? ⟨b, o, none⟩ := fun b o hb hlt => World.cell?_of_block (w := Wb) (a := ⟨b, o, none⟩) (hkp.block b hlt hb)
    have hbl : ∀ {b : Nat} {ob : Obj}, Wb.heap[b]? = some ob → b < Wb.heap.size := fun h => lt_of_block h
    refine .inl ⟨hY2 _ ((hcell _ _ hbdne (hbl HbB.out)).trans e1) ((hcell _ _ hdbne (hbl HdB.out)).trans e2) ((hcell _ _ hwne (hbl HxB.out)).trans e3) (fun j v hv => (hcell _ _ hwne (hbl HxB.out)).trans (e4 j v hv)), ?_⟩
    refine wpAnyH_done (by kernel_rfl) ?_ _
    refine ⟨kf_kpX HSBb.out hkp, ⟨hkp.os, hkp.tape, hkp.output, hkp.size, fun k h1 h2 => hkp.block k (Nat.lt_of_lt_of_le h1 HKb.out.size) h2⟩, HKb.out.trans ⟨hkp.os, hkp.tape, hkp.output, hkp.size, fun k h1 h2 => hkp.block k (Nat.lt_of_lt_of_le h1 HKb.out.size) h2⟩, ?_, fun z hz => ?_⟩
    · rw [List.map_append, List.map_cons, List.map_nil, tb_one, ← hSS]
      exact hfin
    · rw [List.map_append, List.map_cons, List.map_nil] at hz
      rcases List.mem_append.1 hz with hz | hz
      · exact hpw z hz
      · obtain rfl : z = y := by simpa using hz
        exact hyo.2.1
  case done =>
    rintro D xs W hD hxs ⟨hk, hsb, -⟩ hKD
    rw [hxs] at hsb
    obtain ⟨S1, hS1⟩ : ∃ S1, S1 = tbM S Q.reverse := ⟨_, rfl⟩
    rw [← hS1] at hsb
    have hS1l : S1.length = S.length := by rw [hS1]; exact tb_len _ _
    have hS1a : ∀ s ∈ S1, s.length = 64 := by rw [hS1]; exact tb_all HD2.out.len (fun z hz => (HD2.out.ok z (List.mem_reverse.1 hz)).2.1)
    have hDW : Dk base W db sb n (.slice vo Q.length vc) S1 Q dn lf := by
      refine ⟨HD2.out.lo, ?_, hsb, ⟨HD2.out.wa.1, HD2.out.wa.2.imp id fun ⟨g, cap, cur, a, b, c, d⟩ => ⟨g, cap, cur, a, b, by
        rw [hk.block g (lt_of_block c) (fun e => HD2.out.apart.2.2 (by rw [a, e]; rfl))]
        exact c, d⟩⟩, hS1a, fun z hz => HD2.out.ok z hz, by rw [hS1l]; exact HD2.out.few⟩
      rw [hS1l]
      exact (hk.block db hdblt hdbne).trans HD2.out.hd
    have hXW : Rws 1 W (.slice xo ks.length xc) (ks.map fun z => [.int .i64 z]) := by
      obtain ⟨ao, c, e, q1, q2, q3, q5, q4⟩ := HX2.out
      refine ⟨ao, c, e, q1, q2, q3, q5, fun a ha j u hu => ?_⟩
      have h6 := q4 a ha j u hu
      obtain ⟨z, rfl⟩ : ∃ z, u = .int .i64 z := by
        obtain ⟨r, hr, hu2⟩ := List.mem_flatten.1 (List.mem_of_getElem? hu)
        obtain ⟨z, hz, rfl⟩ := List.mem_map.1 hr
        exact ⟨z, by simpa using hu2⟩
      rw [World.cell?_of_block (w := w2) (a := a.add j) (hk.block _ (World.block_lt_of_cell? w2 _ h6) (int_off HD2.out.sh h6))]
      exact h6
    have hBW : Keep (DX db sb (.slice vo Q.length vc)) w W := (Keep.of_below HB2.out).trans ⟨hk.os, hk.tape, hk.output, hk.size, fun k h1 h2 => hk.block k h1 (fun e => h2 (.inr (.inl e)))⟩
    have hbW : W.heap[w.heap.size]? = some (.cells #[.pointer (some ⟨db, 0, none⟩)] 24 (0, 0)) := (hk.block _ hbdlt hbdne).trans HBD.out
    have HSE := hid hS1
    obtain ⟨mm, hmm⟩ : ∃ mm, mm = min ks.length Q.length := ⟨_, rfl⟩
    have hmi : min (ks.length : Int) (Q.length : Int) = (mm : Int) := by omega
    have hm0 : (0 : Int) ≤ (mm : Int) := by omega
    have hmx : (mm : Int) ≤ (xc : Int) := by omega
    have hl1 := fun V => run_len_slice (P := Tryd.prog) V 23 3 xo ks.length xc Tryd.underlying23
    have hl2 := fun V => run_len_slice (P := Tryd.prog) V 50 3 vo Q.length vc Tryd.underlying50
    have hl3 := fun V => run_len_slice (P := Tryd.prog) V 23 3 xo mm xc Tryd.underlying23
    have HDW := hid hDW
    have HXW := hid hXW
    have HBW := hid hBW
    have HbW := hid hbW
    have HKD := hid hKD
    have HMM := hid hmm
    obtain ⟨c0, c1, c2, c3, f0, f1, f2, f3⟩ := four_cells hDW.hd
    have d0 : W.cell? ⟨w.heap.size, 0, none⟩ = some (.pointer (some ⟨db, 0, none⟩)) := by simp [World.cell?, hbW]
    clear hDW hXW hBW hbW hKD hmm hS1 hk hsb hxs keepRow hrow
    go_upto_region 4 with fail
    go_cut [34, 35, 36] from 25 to 33 (fun sl n i wx => sl = .slice xo mm xc ∧ n = .int .i64 (mm : Int) ∧ i = .int .i64 0 ∧ wx = W)
    case first =>
      go_wp2_with fail
      all_goals go_meet
      all_goals (rw [HMM.out]; refine ⟨?_, ?_, rfl, rfl⟩ <;> first | (congr 1; omega) | (congr 2; omega) | (simp; omega))
    case rest =>
      obtain ⟨rfl, rfl, rfl, hwc⟩ := hcut
      rw [hwc]
      clear hwc
      clear c0 c1 c2 c3 f0 f1 f2 f3 d0
      go_wp2_with fail
      go_loopw [36] (fun i V => ∃ k : Nat, k ≤ mm ∧ i = .int .i64 (k : Int) ∧ Hid (Dk base V db sb n (.slice vo Q.length vc) (layM S1 (Q.take k) (ks.take k)) Q dn lf) ∧ Hid (KpX sb W.heap.size W V)) (fun i _ => mm - (intOf i).toNat)
      case atStart => exact ⟨0, Nat.zero_le _, rfl, HDW, KpX.refl _ _ _⟩
      case round =>
        obtain ⟨k, hk, rfl, HDV, HKV⟩ := hrel
        have hxy : W.heap.size ≤ wr.heap.size := HKV.out.size
        by_cases hkm : k < mm
        · have hkq : k < Q.length := by have := HMM.out; omega
          have hkk : k < ks.length := by have := HMM.out; omega
          have hvy := List.getElem?_eq_getElem hkq
          have hvz := List.getElem?_eq_getElem hkk
          generalize Q[k] = y at *
          generalize ks[k] = z at *
          have hrk := ints_keep HXW.out HDW.out.sh HKV.out
          obtain ⟨xb, xoff, rfl, hcz⟩ := hrk.get (by decide) (k := k) (r := [.int .i64 z]) (by rw [List.getElem?_map, hvz]; rfl)
          have z0 : wr.cell? ⟨xb, xoff + k, none⟩ = some (.int .i64 z) := by have := hcz 0 _ rfl; simpa using this
          obtain ⟨vb, voff, rfl, hcy⟩ := HDV.out.rows.get (by decide) (k := k) (r := rowW y) (by rw [List.getElem?_map, hvy]; rfl)
          have hyo := HDV.out.ok y (List.mem_of_getElem? hvy)
          have hyl : (rowW y).length = 129 := by simp [rowW, hyo.2.1, hyo.2.2]
          have hld : Hid ((Instr.loadAt 84 (.pointer (some ⟨vb, voff + k * 129, none⟩))).run Tryd.prog wr = .ok (.agg (rowW y).toArray) wr) :=
            run_loadAt_mid wr vb (voff + k * 129) 84 (rowW y) _ (fun j v hv => hcy j v hv) Tryd.underlying84 rfl (by rw [size_write, hyl])
          have hst : Hid ((Instr.storeAt 84 (.pointer (some ⟨wr.heap.size, 0, none⟩)) (.agg (rowW y).toArray)).run Tryd.prog (wr.alloc (.cells Tryd.zeroCells84 84)) = .ok () (wr.alloc (.cells (rowW y).toArray 84))) :=
            run_storeAt_new (P := Tryd.prog) wr 84 Tryd.zeroCells84 (rowW y).toArray (by rw [size_write, List.size_toArray, hyl]) (by rw [zero_write, List.size_toArray, hyl]) (all_oneCell_toArray (rowW_one y))
          obtain ⟨c0, c1, c2, c3, f0, f1, f2, f3⟩ := four_cells HDV.out.hd
          have d0 : wr.cell? ⟨w.heap.size, 0, none⟩ = some (.pointer (some ⟨db, 0, none⟩)) := by
            have h9 := (HKV.out.block _ (lt_of_block HbW.out) hbdne).trans HbW.out
            simp [World.cell?, h9]
          have HVY := hid hvy
          have HVZ := hid hvz
          have hbA : Below wr.heap.size wr (wr.alloc (.cells (rowW y).toArray 84)) := (Below.refl _ _).alloc (Nat.le_refl _) _
          have hxA : (wr.alloc (.cells (rowW y).toArray 84)).heap[wr.heap.size]? = some (.cells (rowW y).toArray 84 (0, 0)) := heap_alloc_new _ _
          have HBA := hid hbA
          have HXA := hid hxA
          clear hrk hcz hcy hvy hvz hbA hxA
          go_upto_region 8 with (first
            | (refine wpList_load_run rfl 84 (.tmp 46) rfl (.agg (rowW y).toArray) hld.out ?_)
            | (refine wpList_store_run rfl 84 (.tmp 8) (.tmp 47) rfl hst.out ?_))
          obtain ⟨SS, hSS⟩ : ∃ SS, SS = layM S1 (Q.take k) (ks.take k) := ⟨_, rfl⟩
          have HDV9 : Hid (∀ s ∈ layM S1 (Q.take k) (ks.take k), s.length = 64) := HDV.out.len
          rw [← hSS] at HDV c0 HDV9
          have HSS := hid hSS
          clear hSS
          obtain ⟨wb, hwb⟩ : ∃ wb, wb = wr.heap.size := ⟨_, rfl⟩
          have HWB := hid hwb
          have hsbr : sb < wr.heap.size := lt_of_block HDV.out.sh
          have hwbs : wb ≠ sb := by omega
          rw [← hwb] at HXA
          have hDA := HDV.out.old HBA.out
          have hbA9 := (HBA.out.block _ (lt_of_block ((HKV.out.block _ (lt_of_block HbW.out) hbdne).trans HbW.out))).trans ((HKV.out.block _ (lt_of_block HbW.out) hbdne).trans HbW.out)
          have hwbe : (Value.pointer (some ⟨wr.heap.size, 0, none⟩)) = .pointer (some ⟨wb, 0, none⟩) := by rw [hwb]
          simp only [hwbe]
          clear hwb hwbe
          generalize wr.alloc (.cells (rowW y).toArray 84) = wA at *
          have e1 : wA.cell? ⟨w.heap.size, 0, none⟩ = some (.pointer (some ⟨db, 0, none⟩)) := by simp [World.cell?, hbA9]
          have e2 := (four_cells hDA.hd).1
          have e3 : wA.cell? ⟨wb, 0, none⟩ = some (.int .i64 (y.at' : Int)) := by
            unfold World.cell?
            rw [HXA.out]
            rfl
          have e4 : wA.rangeAt wb 65 (y.now.map bv) := fun j v hv => by
            unfold World.cell?
            rw [HXA.out]
            show (rowW y).toArray[65 + j]? = some v
            rw [List.getElem?_toArray]
            unfold rowW
            rw [show 65 + j = (64 + j) + 1 from by omega, List.getElem?_cons_succ, List.getElem?_append_right (by simp [hyo.2.1]), show 64 + j - (y.was.map bv).length = j from by rw [List.length_map, hyo.2.1]; omega]
            exact hv
          have hyn : y.at' < n := hyo.1
          have hnS : n ≤ SS.length := hDA.few.1
          have hyS : y.at' < SS.length := by omega
          have hyi : (y.at' : Int) < (n : Int) := by omega
          have hclI := cl_int z
          have hcl0 : (0 : Int) ≤ (cl z : Int) := by omega
          have hcl1 : (cl z : Int) ≤ 64 := by have := cl_le z; omega
          have HDA := hid hDA
          have HBA9 := hid hbA9
          clear hDA hbA9 hld hst c0 c1 c2 c3 f0 f1 f2 f3 d0 hS1l
          obtain ⟨S9, hS9⟩ : ∃ S9 : World → Prop, S9 = fun V => V.cell? ⟨w.heap.size, 0, none⟩ = some (.pointer (some ⟨db, 0, none⟩)) ∧ V.cell? ⟨db, 0, none⟩ = some (.slice (some ⟨sb, 0, none⟩) n SS.length) ∧ V.cell? ⟨wb, 0, none⟩ = some (.int .i64 (y.at' : Int)) := ⟨_, rfl⟩
          have hY : ∀ V, S9 V → V.cell? ⟨w.heap.size, 0, none⟩ = some (.pointer (some ⟨db, 0, none⟩)) ∧ V.cell? ⟨db, 0, none⟩ = some (.slice (some ⟨sb, 0, none⟩) n SS.length) ∧ V.cell? ⟨wb, 0, none⟩ = some (.int .i64 (y.at' : Int)) := fun V h => by rw [hS9] at h; exact h
          have hY2 : ∀ V, V.cell? ⟨w.heap.size, 0, none⟩ = some (.pointer (some ⟨db, 0, none⟩)) → V.cell? ⟨db, 0, none⟩ = some (.slice (some ⟨sb, 0, none⟩) n SS.length) → V.cell? ⟨wb, 0, none⟩ = some (.int .i64 (y.at' : Int)) → S9 V := fun V h1 h2 h3 => by rw [hS9]; exact ⟨h1, h2, h3⟩
          clear hS9
          refine wp_region_noPanic ?_
          refine wp_region_held_drew (S := S9) (by kernel_rfl) (hY2 _ e1 e2 e3) (fun hX9 => ?_)
          simp only [Act.put]
          refine wpAnyH_take (i := 0) (v := (.pointer (some ⟨db, 0, none⟩))) rfl (by kernel_rfl) (by kernel_rfl) (by kernel_rfl) (fun _ _ _ h => (show False from h).elim) ?xyG0 ?xhG0 ?xrG0
          case xhG0 => exact hX9
          case xyG0 => exact Or.inl ⟨by rfl, fun V9 hV9 => by obtain ⟨hc1, hc2, hc3⟩ := hY V9 hV9; clear hY hY2 hX9; simp only [List.getElem_toArray, List.getElem_cons_succ, List.getElem_cons_zero]; go_simp⟩
          simp only [Act.put, List.getElem_toArray, List.getElem_cons_succ, List.getElem_cons_zero, List.setIfInBounds_toArray, List.set_cons_succ, List.set_cons_zero]
          refine wpAnyH_take (i := 1) (v := (.pointer (some ⟨db, 0, none⟩))) rfl (by kernel_rfl) (by kernel_rfl) (by kernel_rfl) (fun _ _ _ h => (show False from h).elim) ?xyG1 ?xhG1 ?xrG1
          case xhG1 => exact hX9
          case xyG1 => exact Or.inl ⟨by rfl, fun V9 hV9 => by obtain ⟨hc1, hc2, hc3⟩ := hY V9 hV9; clear hY hY2 hX9; simp only [List.getElem_toArray, List.getElem_cons_succ, List.getElem_cons_zero]; go_simp⟩
          simp only [Act.put, List.getElem_toArray, List.getElem_cons_succ, List.getElem_cons_zero, List.setIfInBounds_toArray, List.set_cons_succ, List.set_cons_zero]
          refine wpAnyH_take (i := 2) (v := (.pointer (some ⟨db, 0, none⟩))) rfl (by kernel_rfl) (by kernel_rfl) (by kernel_rfl) (fun _ _ _ h => (show False from h).elim) ?xyG2 ?xhG2 ?xrG2
          case xhG2 => exact hX9
          case xyG2 => exact Or.inl ⟨by rfl, fun V9 hV9 => by obtain ⟨hc1, hc2, hc3⟩ := hY V9 hV9; clear hY hY2 hX9; simp only [List.getElem_toArray, List.getElem_cons_succ, List.getElem_cons_zero]; go_simp⟩
          simp only [Act.put, List.getElem_toArray, List.getElem_cons_succ, List.getElem_cons_zero, List.setIfInBounds_toArray, List.set_cons_succ, List.set_cons_zero]
          refine wpAnyH_take (i := 3) (v := (.slice (some ⟨sb, 0, none⟩) n SS.length)) rfl (by kernel_rfl) (by kernel_rfl) (by kernel_rfl) (fun _ _ _ h => (show False from h).elim) ?xyG3 ?xhG3 ?xrG3
          case xhG3 => exact hX9
          case xyG3 => exact Or.inl ⟨by rfl, fun V9 hV9 => by obtain ⟨hc1, hc2, hc3⟩ := hY V9 hV9; clear hY hY2 hX9; simp only [List.getElem_toArray, List.getElem_cons_succ, List.getElem_cons_zero]; go_simp⟩
          simp only [Act.put, List.getElem_toArray, List.getElem_cons_succ, List.getElem_cons_zero, List.setIfInBounds_toArray, List.set_cons_succ, List.set_cons_zero]
          refine wpAnyH_take (i := 4) (v := (.pointer (some ⟨wb, 0, none⟩))) rfl (by kernel_rfl) (by kernel_rfl) (by kernel_rfl) (fun _ _ _ h => (show False from h).elim) ?xyG4 ?xhG4 ?xrG4
          case xhG4 => exact hX9
          case xyG4 => exact Or.inl ⟨by rfl, fun V9 hV9 => by obtain ⟨hc1, hc2, hc3⟩ := hY V9 hV9; clear hY hY2 hX9; simp only [List.getElem_toArray, List.getElem_cons_succ, List.getElem_cons_zero]; go_simp⟩
          simp only [Act.put, List.getElem_toArray, List.getElem_cons_succ, List.getElem_cons_zero, List.setIfInBounds_toArray, List.set_cons_succ, List.set_cons_zero]
          refine wpAnyH_take (i := 5) (v := (.int .i64 (y.at' : Int))) rfl (by kernel_rfl) (by kernel_rfl) (by kernel_rfl) (fun _ _ _ h => (show False from h).elim) ?xyG5 ?xhG5 ?xrG5
          case xhG5 => exact hX9
          case xyG5 => exact Or.inl ⟨by rfl, fun V9 hV9 => by obtain ⟨hc1, hc2, hc3⟩ := hY V9 hV9; clear hY hY2 hX9; simp only [List.getElem_toArray, List.getElem_cons_succ, List.getElem_cons_zero]; go_simp⟩
          simp only [Act.put, List.getElem_toArray, List.getElem_cons_succ, List.getElem_cons_zero, List.setIfInBounds_toArray, List.set_cons_succ, List.set_cons_zero]
          refine wpAnyH_take (i := 6) (v := (.pointer (some ⟨sb, y.at' * 64, none⟩))) rfl (by kernel_rfl) (by kernel_rfl) (by kernel_rfl) (fun _ _ _ h => (show False from h).elim) ?xyG6 ?xhG6 ?xrG6
          case xhG6 => exact hX9
          case xyG6 => exact Or.inl ⟨by rfl, fun V9 hV9 => by obtain ⟨hc1, hc2, hc3⟩ := hY V9 hV9; clear hY hY2 hX9; simp only [List.getElem_toArray, List.getElem_cons_succ, List.getElem_cons_zero]; go_simp⟩
          simp only [Act.put, List.getElem_toArray, List.getElem_cons_succ, List.getElem_cons_zero, List.setIfInBounds_toArray, List.set_cons_succ, List.set_cons_zero]
          refine wpAnyH_take (i := 7) (v := (.slice (some ⟨sb, y.at' * 64, none⟩) 64 64)) rfl (by kernel_rfl) (by kernel_rfl) (by kernel_rfl) (fun _ _ _ h => (show False from h).elim) ?xyG7 ?xhG7 ?xrG7
          case xhG7 => exact hX9
          case xyG7 => exact Or.inl ⟨by rfl, fun V9 hV9 => by obtain ⟨hc1, hc2, hc3⟩ := hY V9 hV9; clear hY hY2 hX9; simp only [List.getElem_toArray, List.getElem_cons_succ, List.getElem_cons_zero]; go_simp⟩
          simp only [Act.put, List.getElem_toArray, List.getElem_cons_succ, List.getElem_cons_zero, List.setIfInBounds_toArray, List.set_cons_succ, List.set_cons_zero]
          refine wpAnyH_take (i := 8) (v := (.pointer (some ⟨wb, 65, none⟩))) rfl (by kernel_rfl) (by kernel_rfl) (by kernel_rfl) (fun _ _ _ h => (show False from h).elim) ?xyG8 ?xhG8 ?xrG8
          case xhG8 => exact hX9
          case xyG8 => exact Or.inl ⟨by rfl, fun V9 hV9 => by obtain ⟨hc1, hc2, hc3⟩ := hY V9 hV9; clear hY hY2 hX9; simp only [List.getElem_toArray, List.getElem_cons_succ, List.getElem_cons_zero]; go_simp⟩
          simp only [Act.put, List.getElem_toArray, List.getElem_cons_succ, List.getElem_cons_zero, List.setIfInBounds_toArray, List.set_cons_succ, List.set_cons_zero]
          refine wpAnyH_take (i := 9) (v := (.int .i64 z)) rfl (by kernel_rfl) (by kernel_rfl) (by kernel_rfl) (fun _ _ _ h => (show False from h).elim) ?xyG9 ?xhG9 ?xrG9
          case xhG9 => exact hX9
          case xyG9 => exact Or.inl ⟨by rfl, fun V9 hV9 => by obtain ⟨hc1, hc2, hc3⟩ := hY V9 hV9; clear hY hY2 hX9; simp only [List.getElem_toArray, List.getElem_cons_succ, List.getElem_cons_zero]; go_simp⟩
          simp only [Act.put, List.getElem_toArray, List.getElem_cons_succ, List.getElem_cons_zero, List.setIfInBounds_toArray, List.set_cons_succ, List.set_cons_zero]
          refine wpAnyH_take (i := 10) (v := (.int .i64 (max z 0))) rfl (by kernel_rfl) (by kernel_rfl) (by kernel_rfl) (fun _ _ _ h => (show False from h).elim) ?xyG10 ?xhG10 ?xrG10
          case xhG10 => exact hX9
          case xyG10 => exact Or.inl ⟨by rfl, fun V9 hV9 => by obtain ⟨hc1, hc2, hc3⟩ := hY V9 hV9; clear hY hY2 hX9; simp only [List.getElem_toArray, List.getElem_cons_succ, List.getElem_cons_zero]; go_simp; split <;> omega⟩
          simp only [Act.put, List.getElem_toArray, List.getElem_cons_succ, List.getElem_cons_zero, List.setIfInBounds_toArray, List.set_cons_succ, List.set_cons_zero]
          refine wpAnyH_take (i := 11) (v := (.int .i64 (cl z : Int))) rfl (by kernel_rfl) (by kernel_rfl) (by kernel_rfl) (fun _ _ _ h => (show False from h).elim) ?xyG11 ?xhG11 ?xrG11
          case xhG11 => exact hX9
          case xyG11 => exact Or.inl ⟨by rfl, fun V9 hV9 => by obtain ⟨hc1, hc2, hc3⟩ := hY V9 hV9; clear hY hY2 hX9; simp only [List.getElem_toArray, List.getElem_cons_succ, List.getElem_cons_zero]; go_simp; split <;> omega⟩
          simp only [Act.put, List.getElem_toArray, List.getElem_cons_succ, List.getElem_cons_zero, List.setIfInBounds_toArray, List.set_cons_succ, List.set_cons_zero]
          refine wpAnyH_take (i := 12) (v := (.slice (some ⟨wb, 65, none⟩) (cl z) 64)) rfl (by kernel_rfl) (by kernel_rfl) (by kernel_rfl) (fun _ _ _ h => (show False from h).elim) ?xyG12 ?xhG12 ?xrG12
          case xhG12 => exact hX9
          case xyG12 => exact Or.inl ⟨by rfl, fun V9 hV9 => by obtain ⟨hc1, hc2, hc3⟩ := hY V9 hV9; clear hY hY2 hX9 hclI; simp only [List.getElem_toArray, List.getElem_cons_succ, List.getElem_cons_zero]; go_simp⟩
          simp only [Act.put, List.getElem_toArray, List.getElem_cons_succ, List.getElem_cons_zero, List.setIfInBounds_toArray, List.set_cons_succ, List.set_cons_zero]
          refine wpAnyH_all (rs := [13]) (by kernel_rfl) (by simp) (fun i hi => ?_)
          obtain rfl : i = 13 := by simpa using hi
          unfold wpOp
          simp only [List.getElem?_toArray, List.getElem?_cons_succ, List.getElem?_cons_zero]
          rw [if_pos (by rfl)]
          have hallSS : ∀ s ∈ SS, s.length = 64 := HDV9.out
          have hptl : (y.now.take (cl z)).length = cl z := by rw [List.length_take, hyo.2.2]; have := cl_le z; omega
          have hcp : Hid ((Builtin.copy_ #[32, 32] 3 #[.slice (some ⟨sb, y.at' * 64, none⟩) 64 64, .slice (some ⟨wb, 65, none⟩) (cl z) 64]).run Tryd.prog wA.drew = .ok (goInt ((y.now.take (cl z)).map bv).length) (wA.drew.setCells sb (y.at' * 64) ((y.now.take (cl z)).map bv))) := by
            refine run_copy_cells wA.drew _ _ _ 5 sb (y.at' * 64) 64 64 ⟨wb, 65, none⟩ (cl z) 64 _ Tryd.underlying32 (by kernel_rfl) ?_ (fun j v hv => ?_) (fun j hj => ?_) (fun j hj => ?_) (bv_one _)
            · rw [List.length_map, hptl]; have := cl_le z; simp [Nat.min_def]; omega
            · rw [Addr.add_mid]
              rw [List.getElem?_map, List.getElem?_take] at hv
              split at hv
              · exact e4 j v (by rw [List.getElem?_map]; exact hv)
              · cases hv
            · rw [List.length_map, hptl] at hj
              exact ((sh_there HDA.out.sh HDA.out.len hyS) j (by have := cl_le z; omega)).1
            · rw [List.length_map, hptl] at hj
              exact ((sh_there HDA.out.sh HDA.out.len hyS) j (by have := cl_le z; omega)).2
          have hfin := sh_part (w := wA.drew) HDA.out.sh HDA.out.len hyS (p := y.now.take (cl z)) (by rw [hptl]; exact cl_le z)
          rw [hptl] at hfin
          have hkp : KpX sb wA.heap.size wA (wA.drew.setCells sb (y.at' * 64) ((y.now.take (cl z)).map bv)) := kpX_setCells _ _ _ _ (Nat.le_refl _) ⟨rfl, rfl, rfl, Nat.le_refl _, fun _ _ _ => rfl⟩
          have hcell : ∀ (b o : Nat), b ≠ sb → b < wA.heap.size → (wA.drew.setCells sb (y.at' * 64) ((y.now.take (cl z)).map bv)).cell? ⟨b, o, none⟩ = wA.cell? ⟨b, o, none⟩ := fun b o hb hlt => World.cell?_of_block (w := wA) (a := ⟨b, o, none⟩) (hkp.block b hlt hb)
          have hnext := HDA.out.relaid (S' := lay1 SS y z) hkp hfin (lay1_len _ _ _) (lay1_all HDA.out.len ⟨hyS, hyo.2.2⟩ z)
          have hkall : KpX sb W.heap.size W (wA.drew.setCells sb (y.at' * 64) ((y.now.take (cl z)).map bv)) := (HKV.out.trans (KpX.of HBA.out HKV.out.size)).trans ⟨hkp.os, hkp.tape, hkp.output, hkp.size, fun k h1 h2 => hkp.block k (Nat.lt_of_lt_of_le h1 (Nat.le_trans HKV.out.size HBA.out.size)) h2⟩
          refine .inl ?_
          unfold Oper.wp
          rw [exec_copy (t1 := 32) (t2 := 32) (s := .tmp 55) (x := .tmp 60) rfl hcp.out]
          simp only [Oper.upon]
          refine ⟨hY2 _ ((hcell _ _ hbdne (lt_of_block HBA9.out)).trans e1) ((hcell _ _ hdbne (lt_of_block HDA.out.hd)).trans e2) ((hcell _ _ hwbs (lt_of_block HXA.out)).trans e3), ?_⟩
          refine wpAnyH_done (by kernel_rfl) (NoPanic.normal ?_) _
          simp only [Act.put, List.getElem_toArray, List.getElem_cons_succ, List.getElem_cons_zero, List.setIfInBounds_toArray, List.set_cons_succ, List.set_cons_zero]
          have HNX := hid hnext
          have HKA := hid hkall
          generalize wA.drew.setCells sb (y.at' * 64) ((y.now.take (cl z)).map bv) = wB at *
          clear hfin hkp hcell hnext hkall hY hY2 hX9 e1 e2 e3 e4 hcp
          have HNY : Hid (Dk base wB db sb n (.slice (some ⟨vb, voff, none⟩) Q.length vc) (layM S1 (Q.take (k + 1)) (ks.take (k + 1))) Q dn lf) := by
            have h9 := HNX.out
            rw [HSS.out, ← lay_next HVY.out HVZ.out] at h9
            exact h9
          go_wp2_with fail
          go_roundw
          case rel => exact ⟨k + 1, by omega, by go_num, HNY, HKA⟩
          case measure => simp [intOf]; omega
        · obtain rfl : k = mm := by omega
          have hfl : layM S1 (Q.take k) (ks.take k) = layM S1 Q ks := by rw [HMM.out]; exact lay_all _ _ _
          rw [hfl] at HDV
          obtain ⟨c0, c1, c2, c3, f0, f1, f2, f3⟩ := four_cells HDV.out.hd
          have hbV := (HKV.out.block _ (lt_of_block HbW.out) hbdne).trans HbW.out
          have d0 : wr.cell? ⟨w.heap.size, 0, none⟩ = some (.pointer (some ⟨db, 0, none⟩)) := by simp [World.cell?, hbV]
          have hDsb : D ≠ sb := fun e => by
            have h1 := HKD.out
            rw [e, HDW.out.sh] at h1
            cases h1
          have hDV := (HKV.out.block D (lt_of_block HKD.out) hDsb).trans HKD.out
          have HDV2 := hid hDV
          clear hbV hDV hfl
          go_wp2_with fail
          have hDdb : D ≠ db := fun e => by
            have h1 := HDV2.out
            rw [e, HDV.out.hd] at h1
            cases h1
          have hDs : (wr.setCell ⟨db, 1, none⟩ (.slice none 0 0)).heap[D]? = some (.deferred (some [])) := (Below.heap_setCell _ ⟨db, 1, none⟩ _ D hDdb).trans HDV2.out
          have hbase : base ≤ W.heap.size := Nat.le_trans H.out.base_le HBW.out.size
          have hbV : Keep (DX db sb (.slice vo Q.length vc)) w wr := HBW.out.trans ⟨HKV.out.os, HKV.out.tape, HKV.out.output, HKV.out.size, fun k h1 h2 => HKV.out.block k h1 (fun e => h2 (.inr (.inl e)))⟩
          have hbD : base ≤ D := Nat.le_trans (Nat.le_trans H.out.base_le HB2.out.size) hD
          refine ⟨by simp, .inl ⟨_, _, rfl, run_takeDeferred hDs, ?_⟩⟩
          refine ⟨_, results_none rfl _ _ _, rfl, ?_, ?_⟩
          · rw [← HSE.out]
            refine ⟨HDV.out.lo, ?_, ?_, World.ownsRow_nil _ _ _ _, HDV.out.len, (fun z hz => by cases hz), HDV.out.few⟩
            · exact (World.putObj_heap_other (fun e => hDdb e.symm)).trans (set_at _ HDV.out.hd)
            · exact (World.putObj_heap_other (fun e => hDsb e.symm)).trans ((Below.heap_setCell _ ⟨db, 1, none⟩ _ sb (fun e => hdbne e.symm)).trans HDV.out.sh)
          · have hbS : Keep (DX db sb (.slice vo Q.length vc)) w (wr.setCell ⟨db, 1, none⟩ (.slice none 0 0)) := hbV.trans (Keep.set wr _ _ (.inl rfl))
            exact ⟨hbS.trans2 (Y := fun k => k = D) (Keep.of_grown (grownBy_putObj' _ D _) (fun k e => by cases e; rfl)) (fun i e => .inr (by subst e; exact Nat.le_trans HB2.out.size hD)), fun k hk => by cases hk⟩

theorem fall_any (h : Dk base w db sb n vw S Q dn lf) (x : Value) (ks : List Int) (hx : Rws 1 w x (ks.map fun z => [.int .i64 z])) (hq : Q.length ≤ 100000) :
    Calls Tryd.prog 31 #[.pointer (some ⟨db, 0, none⟩), x] w (fun e w' => e = .returned (.tuple #[]) ∧ Dk base w' db sb n (.slice none 0 0) (layM (tbM S Q.reverse) Q ks) [] dn lf ∧ Below base w w') := by
  refine (fall_gen h x ks hx hq).mono ?_
  rintro e w' ⟨rfl, hD, hF⟩
  exact ⟨rfl, hD, h.below hF⟩
end
end Go.Proofs.YtcbbklbjfknnlaaDoor
