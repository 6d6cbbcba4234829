import Derived.Deep.RegionHeld3
import Derived.Deep.WholeRow
import Derived.BigRegion
import Derived.Great.BuildSlice
import Derived.Deep.AppendLies
import Derived.StillTailTactics
import Derived.Deep.RegionLaw
import Derived.Deep.CutBlock
import Derived.Test.YtddnleofflobhaaGreatDoorRows
import Derived.WalkKit
import Derived.WalkSpells
import Derived.WalkLawsBesides
import Derived.Laws.AppendOwnNone
import Derived.BigQuiet
import Derived.Deep.QuietTactic
import Derived.Deep.MidRow
import Derived.Laws.MakeOwn
import Derived.Lib.Bytes
import Derived.Shelf.Abstract
import Derived.Great.FillDense
import Derived.Laws.Tables
import Derived.LoopN
import Derived.Deep.OwnRows
import Derived.Deep.Slices
import Derived.Test.YtddnleofflobhaaGreatDoorVG1
import Derived.Test.YtddnleofflobhaaGreatDoorVG2
import Derived.Test.YtddnleofflobhaaGreatDoorVG3
import Derived.Test.YtddnleofflobhaaGreatDoorVG4
set_option linter.unusedVariables false
set_option linter.unusedSimpArgs false
set_option linter.unusedVariables false
set_option maxRecDepth 100000
namespace Go.Proofs.YtddnleofflobhaaGreatDoor
open Go.RowKit

/-- What came in as bytes, as a range. -/
theorem rd_range {w : World} {ao : Option Addr} {n c : Nat} {l : List UInt8} (h : Rd w (.slice ao n c) l) (h0 : 0 < l.length) : ∃ b off, ao = some ⟨b, off, none⟩ ∧ w.rangeAt b off (l.map bv) := by
  obtain ⟨b, off, e, -⟩ := rd_get h (List.getElem?_eq_getElem h0)
  subst e
  obtain ⟨ao', c', he, h1, h2, h3, h4⟩ := h
  simp only [Value.slice.injEq] at he
  obtain ⟨rfl, rfl, rfl⟩ := he
  refine ⟨b, off, rfl, fun j v hv => ?_⟩
  have := h4 _ rfl j v hv
  rwa [WideShapes.add_plain] at this

theorem size_sector : (Tryz.prog.info? 108).map (·.size) = some 64 := by kernel_rfl

theorem run_array (a : Addr) (c : Nat) (W : World) : (Instr.arrayAt 108 (.slice (some a) 64 c)).run Tryz.prog W = .ok (.pointer (some a)) W := by
  simp [Instr.arrayAt, run_underlying Tryz.underlying108]

theorem zero_write : Tryz.zeroCells110.size = 129 := by kernel_rfl
theorem rowW_one (x : Wr) : ∀ v ∈ rowW x, v.oneCell' = true := fun v hv => by
  unfold rowW at hv
  rcases List.mem_cons.1 hv with rfl | hv
  · rfl
  · rcases List.mem_append.1 hv with hv | hv
    · exact bv_one _ v hv
    · exact bv_one _ v hv

theorem size_write : (Tryz.prog.info? 110).map (·.size) = some 129 := by kernel_rfl
/-- 'append(v, x...)' at a step of a region that draws its order. -/
theorem step_rapp {P : Program} {w : World} {o : Oper} {a : Act} {K : Act → World → Prop} {Q : Exit → Act → World → Prop} (s x : Operand) (t : TypeId)
    (ho : o.op = .call { callee := .builtin .append, args := #[s, x], argTypes := #[t, t] })
    (base size bytes : Nat) (e : TypeId) (ht : P.underlying t = some (.slice e)) (z : Value) (hinfo : (P.info? e).map (fun i => (i.zero, i.size, i.bytes)) = some (some z, size, bytes)) (hzs : z.cells.size = size) (hsz : 0 < size)
    (v : Value) (n : Nat) (xs : List Value) (hs : a.eval s = v) (hown : w.ownsRow base e size v n xs)
    (y : Value) (L : List (List Value)) (hx : a.eval x = y) (hr : Rws size w y L) (hn : (n + L.length) * bytes ≤ 140737488355328) (hm : n + L.length ≤ maxLen) (hbase : base ≤ w.heap.size)
    (h : ∀ v' w', w'.ownsRow base e size v' (n + L.length) (xs ++ L.flatten) → w.grownBy w' v.ownBlock → (∀ k, v'.ownBlock = some k → v.ownBlock = some k ∨ w.heap.size ≤ k) → K (a.put o.dst v') w') :
    Oper.wp P o a w K Q := by
  obtain ⟨i0, hi, hz0, hz1, hz2⟩ : ∃ i, P.info? e = some i ∧ i.zero = some z ∧ i.size = size ∧ i.bytes = bytes := by
    cases hq : P.info? e with
    | none => rw [hq] at hinfo; cases hinfo
    | some i => rw [hq] at hinfo; simp at hinfo; exact ⟨i, rfl, hinfo⟩
  obtain ⟨ao, c, rfl, h1, h2, h3, h5, h4⟩ := hr
  cases ao with
  | some ad =>
    obtain ⟨v', w', hrun, q2, q3, -⟩ := run_append_own (P := P) w base t o.type e i0 z size bytes ht hi hz0 hz1 hz2 hzs hsz v n xs hown ad L.length c L.flatten h5.len (h4 ad rfl) h5.one hm hn hbase
    have q4 := app_fresh ht hi hz0 hz1 hz2 hzs hsz hown h5.len (h4 ad rfl) h5.one hm hn hrun
    unfold Oper.wp execOp
    simp only [ho, resolve, invoke, builtin, Sem.run_bind, Sem.run_pure, Result.andThen_ok, List.map_toArray, List.map_cons, List.map_nil, hs, hx, hrun]
    exact h v' w' q2 q3 q4
  | none =>
    have hc := h3 rfl
    obtain rfl : L = [] := List.eq_nil_of_length_eq_zero (by omega)
    subst hc
    have hrun := run_append_owned_none (P := P) (w := w) base t o.type e i0 size ht hi v n xs hown
    unfold Oper.wp execOp
    simp only [List.length_nil] at hx
    simp only [ho, resolve, invoke, builtin, Sem.run_bind, Sem.run_pure, Result.andThen_ok, List.map_toArray, List.map_cons, List.map_nil, hs, hx, hrun]
    exact h v w (by simpa using hown) (World.grownBy.refl _ _) (fun k hk => .inl hk)

theorem own_form {W : World} {b : Nat} {e : TypeId} {s n : Nat} {v : Value} {xs : List Value} (h : W.ownsRow b e s v n xs) : ∃ ao c, v = .slice ao n c := by
  rcases h.2 with ⟨rfl, h0⟩ | ⟨g, cap, cur, rfl, _⟩
  · rw [h0]; exact ⟨_, _, rfl⟩
  · exact ⟨_, _, rfl⟩
theorem info_write : (Tryz.prog.info? 110).map (fun i => (i.zero, i.size, i.bytes)) = some (some (.agg (#[.int .i64 0] ++ Array.replicate 128 (.int .u8 0))), 129, 136) := by kernel_rfl
theorem run_buildOne (R : Array Value) (hR : R.size = 129) (W : World) : (Instr.buildSlice 70 1 #[(0, .agg R)]).run Tryz.prog W = .ok (.slice (some ⟨W.heap.size, 0, none⟩) 1 1) (W.alloc (.cells R 110)) := by
  obtain ⟨i, hi, h1⟩ := Option.map_eq_some_iff.1 info_write
  simp only [Prod.mk.injEq] at h1
  obtain ⟨hz, hs, -⟩ := h1
  refine run_buildSlice W _ _ 1 _ R i _ Tryz.underlying70 hi hz (by rw [hs]; decide) (by rw [hs]; decide) ?_
  rw [hs]
  have h := Great.fill_whole (s := 129) (by decide) [.agg R] ((Array.range (1 * 129)).map ((Value.agg (#[.int .i64 0] ++ Array.replicate 128 (.int .u8 0))).cells[· % (Value.agg (#[.int .i64 0] ++ Array.replicate 128 (.int .u8 0))).cells.size]!)) (by intro v hv; simp at hv; subst hv; exact hR) (by simp)
  have e : ([Value.agg R].flatMap fun v => v.cells.toList).toArray = R := by simp [Value.cells]
  rw [e] at h
  exact h
theorem exec_load {P : Program} {ρ : Operand → Value} {o : Oper} {t : TypeId} {x : Operand} {v : Value} {W : World} (ho : o.op = .load t x) (h : (Instr.loadAt t (ρ x)).run P W = .ok v W) : (execOp ρ o).run P W = .ok (.value v) W := by
  unfold execOp
  simp only [ho, Sem.run_bind, h, Result.andThen_ok]
  rfl
theorem exec_buildSlice {P : Program} {ρ : Operand → Value} {o : Oper} {t : TypeId} {n : Nat} {parts : Array (Nat × Operand)} {v : Value} {W W' : World} (ho : o.op = .buildSlice t n parts) (h : (Instr.buildSlice t n (parts.map fun (i, x) => (i, ρ x))).run P W = .ok v W') : (execOp ρ o).run P W = .ok (.value v) W' := by
  unfold execOp
  simp only [ho, Sem.run_bind, h, Result.andThen_ok]
  rfl
theorem load_whole {W : World} {b : Nat} {R : Array Value} (hR : R.size = 129) (h : W.heap[b]? = some (.cells R 110 (0, 0))) : (Instr.loadAt 110 (.pointer (some ⟨b, 0, none⟩))).run Tryz.prog W = .ok (.agg R) W := by
  have h1 := run_loadAt_mid (P := Tryz.prog) W b 0 110 R.toList _ (fun j v hv => by
    unfold World.cell?
    rw [h]
    show R[0 + j]? = some v
    rw [Nat.zero_add]
    simpa using hv) Tryz.underlying110 rfl (by rw [size_write, Array.length_toList, hR])
  simpa using h1

theorem exec_build {P : Program} {ρ : Operand → Value} {o : Oper} {t : TypeId} {parts : Array (Nat × Operand)} {v : Value} {W : World} (ho : o.op = .build t parts) (h : (Instr.build t (parts.map fun (i, x) => (i, ρ x))).run P W = .ok v W) : (execOp ρ o).run P W = .ok (.value v) W := by
  unfold execOp
  simp only [ho, Sem.run_bind, h, Result.andThen_ok]
  rfl
theorem exec_store {P : Program} {ρ : Operand → Value} {o : Oper} {t : TypeId} {x y : Operand} {W W' : World} (ho : o.op = .store t x y) (h : (Instr.storeAt t (ρ x) (ρ y)).run P W = .ok () W') : (execOp ρ o).run P W = .ok .skip W' := by
  unfold execOp
  simp only [ho, Sem.run_bind, h, Result.andThen_ok]
  rfl
theorem setCells_at {b : Nat} {t : TypeId} : ∀ (vs : List Value) (o : Nat) (w : World) (c : Array Value), w.heap[b]? = some (.cells c t (0, 0)) → o + vs.length ≤ c.size →
    ∃ c', (w.setCells b o vs).heap[b]? = some (.cells c' t (0, 0)) ∧ c'.size = c.size ∧ ∀ j : Nat, c'[j]? = if o ≤ j ∧ j < o + vs.length then vs[j - o]? else c[j]?
  | [], o, w, c, h, _ => ⟨c, h, rfl, fun j => by rw [if_neg (by rw [List.length_nil]; omega)]⟩
  | v :: r, o, w, c, h, hl => by
    rw [List.length_cons] at hl
    have h1 := set_at (k := o) v h
    obtain ⟨c', h2, h3, h4⟩ := setCells_at r (o + 1) (w.setCell ⟨b, o, none⟩ v) (c.setIfInBounds o v) h1 (by simp; omega)
    refine ⟨c', by rw [World.setCells]; exact h2, by rw [h3]; simp, fun j => ?_⟩
    rw [h4 j, List.length_cons]
    by_cases e : j = o
    · subst e
      rw [if_neg (by omega), if_pos (by omega), Nat.sub_self]
      simp [show j < c.size from by omega]
    · by_cases hin : o + 1 ≤ j ∧ j < o + 1 + r.length
      · rw [if_pos hin, if_pos (by omega), show j - o = (j - (o + 1)) + 1 from by omega, List.getElem?_cons_succ]
      · rw [if_neg hin, if_neg (by omega), Array.getElem?_setIfInBounds_ne (fun h => e h.symm)]

theorem heap_setCells_other {b k : Nat} {ob : Obj} : ∀ {w : World} (h : w.heap[k]? = some ob) (hne : k ≠ b) (o : Nat) (vs : List Value), (w.setCells b o vs).heap[k]? = some ob
  | w, h, hne, o, [] => h
  | w, h, hne, o, v :: r => by
    rw [World.setCells]
    exact heap_setCells_other ((Below.heap_setCell w ⟨b, o, none⟩ v k hne).trans h) hne (o + 1) r

theorem below_setCells {B b : Nat} {w0 : World} (hB : B ≤ b) : ∀ (vs : List Value) (o : Nat) (w : World), Below B w0 w → Below B w0 (w.setCells b o vs)
  | [], _, _, h => h
  | v :: r, o, w, h => by
    rw [World.setCells]
    exact below_setCells hB r (o + 1) _ (h.setCell hB v)

theorem flat_set {S : List (List UInt8)} (h : ∀ s ∈ S, s.length = 64) {k : Nat} {l : List UInt8} (hk : k < S.length) (hl : l.length = 64) (j : Nat) :
    (S.set k l).flatten[j]? = if k * 64 ≤ j ∧ j < k * 64 + 64 then l[j - k * 64]? else S.flatten[j]? := by
  have h2 : ∀ s ∈ S.set k l, s.length = 64 := fun s hs => by
    rcases List.mem_or_eq_of_mem_set hs with hs | rfl
    · exact h s hs
    · exact hl
  have hm : j % 64 < 64 := Nat.mod_lt _ (by decide)
  have hj : j / 64 * 64 + j % 64 = j := by omega
  by_cases hq : j / 64 < S.length
  · have e1 := flat_at h2 (k := j / 64) (s := if j / 64 = k then l else S[j / 64]) (by
      rw [List.getElem?_set]
      by_cases e : k = j / 64
      · subst e; simp [hk]
      · rw [if_neg e, if_neg (fun h => e h.symm), List.getElem?_eq_getElem hq]) (j % 64) hm
    rw [hj] at e1
    rw [e1]
    by_cases e : j / 64 = k
    · rw [if_pos e, if_pos (by omega)]
      congr 1; omega
    · rw [if_neg e, if_neg (by omega)]
      have e2 := flat_at h (List.getElem?_eq_getElem hq) (j % 64) hm
      rw [hj] at e2
      exact e2.symm
  · rw [if_neg (by omega), List.getElem?_eq_none (by rw [flat_len h2, List.length_set]; omega), List.getElem?_eq_none (by rw [flat_len h]; omega)]

theorem Dk.base_le {base : Nat} {w : World} {db sb n : Nat} {vw : Value} {S : List (List UInt8)} {Q : List Wr} {dn : Bool} {lf : Nat} (h : Dk base w db sb n vw S Q dn lf) : base ≤ w.heap.size := Nat.le_trans h.lo.1 (Nat.le_of_lt (lt_of_block h.hd))

/-- A sector shows other bytes. -/
theorem Dk.shown {base : Nat} {w : World} {db sb n : Nat} {vw : Value} {S : List (List UInt8)} {Q : List Wr} {dn : Bool} {lf : Nat} (h : Dk base w db sb n vw S Q dn lf) {k : Nat} {l : List UInt8} (hk : k < S.length) (hl : l.length = 64) :
    Dk base (w.setCells sb (k * 64) (l.map bv)) db sb n vw (S.set k l) Q dn lf := by
  have hfl := flat_len h.len
  obtain ⟨c', h1, -, h3⟩ := setCells_at (l.map bv) (k * 64) w _ h.sh (by rw [List.length_map, hl, List.size_toArray, List.length_map, hfl]; omega)
  have h2 : ∀ s ∈ S.set k l, s.length = 64 := fun s hs => by
    rcases List.mem_or_eq_of_mem_set hs with hs | rfl
    · exact h.len s hs
    · exact hl
  have e : c' = ((S.set k l).flatten.map bv).toArray := by
    apply Array.ext_getElem?
    intro j
    rw [h3 j, List.length_map, hl]
    by_cases hj : k * 64 ≤ j ∧ j < k * 64 + 64
    · rw [if_pos hj, List.getElem?_map, List.getElem?_toArray, List.getElem?_map, flat_set h.len hk hl j, if_pos hj]
    · rw [if_neg hj, List.getElem?_toArray, List.getElem?_toArray, List.getElem?_map, List.getElem?_map, flat_set h.len hk hl j, if_neg hj]
  subst e
  refine ⟨h.lo, ?_, h1, ?_, h2, fun x hx => ?_, by rw [List.length_set]; exact h.few⟩
  · rw [List.length_set]
    exact heap_setCells_other h.hd h.apart.1 _ _
  · rcases h.wa.2 with ⟨rfl, hn⟩ | ⟨g, cap, cur, hv, hb, hg, hr⟩
    · exact ⟨h.wa.1, .inl ⟨rfl, hn⟩⟩
    · exact ⟨h.wa.1, .inr ⟨g, cap, cur, hv, hb, heap_setCells_other hg (fun e => h.apart.2.2 (by rw [hv, e]; rfl)) _ _, hr⟩⟩
  · exact h.ok x hx

theorem run_one {v : Value} {db o : Nat} {W : World} (h : W.cell? ⟨db, o, none⟩ = some v) : (Instr.loadAt 70 (.pointer (some ⟨db, o, none⟩))).run Tryz.prog W = .ok v W := by
  have h1 := Tryz.underlying70
  simp [Instr.loadAt, Instr.sureAddr, loadVar, isAgg, run_underlying h1, h]
theorem row_rws {W : World} {b k : Nat} {s l : List UInt8} {R : Array Value} (h : W.heap[b]? = some (.cells R 110 (0, 0))) (hR : R = (rowW ⟨k, s, l⟩).toArray) (hs : s.length = 64) (hl : l.length = 64) : Rws 129 W (.slice (some ⟨b, 0, none⟩) 1 1) [rowW ⟨k, s, l⟩] := by
  refine ⟨_, _, rfl, Nat.le_refl _, by decide, (fun e => by cases e), fun r hr => ?_, fun a ha j u hu => ?_⟩
  · obtain rfl : r = rowW ⟨k, s, l⟩ := by simpa using hr
    exact ⟨by simp [rowW, hs, hl], rowW_one _⟩
  · cases ha
    rw [WideShapes.add_plain, Nat.zero_add]
    unfold World.cell?
    rw [h]
    show R[j]? = some u
    rw [hR]
    simpa using hu
/-- One write more waits. -/
theorem Dk.app {base : Nat} {w : World} {db sb n : Nat} {vw : Value} {S : List (List UInt8)} {Q : List Wr} {dn : Bool} {lf : Nat} (h : Dk base w db sb n vw S Q dn lf) {w5 : World} {ao : Option Addr} {m c : Nat} {x : Wr} (hg : w.grownBy w5 vw.ownBlock)
    (ho : w5.ownsRow base 110 129 (.slice ao m c) (Q.length + [rowW x].length) ((Q.map rowW).flatten ++ [rowW x].flatten)) (hx : x.at' < n ∧ x.was.length = 64 ∧ x.now.length = 64) (hfr : ∀ k, (Value.slice ao m c).ownBlock = some k → vw.ownBlock = some k ∨ w.heap.size ≤ k) :
    Dk base (w5.setCell ⟨db, 1, none⟩ (.slice ao m c)) db sb n (.slice ao m c) S (Q ++ [x]) dn lf ∧ Dfr db sb vw (.slice ao m c) w (w5.setCell ⟨db, 1, none⟩ (.slice ao m c)) := by
  have hd5 := heap_kept hg h.hd (fun e => h.apart.2.1 e.symm)
  have hs5 := heap_kept hg h.sh (fun e => h.apart.2.2 e.symm)
  have hne : (Value.slice ao m c).ownBlock ≠ some db := fun e => by
    rcases ho.2 with ⟨h1, h2⟩ | ⟨g, cap, cur, h1, _, h3, _⟩
    · rw [h1] at e; cases e
    · rw [h1] at e
      have : g = db := by simpa [Value.ownBlock] using e
      subst this
      rw [hd5] at h3
      simp at h3
  refine ⟨⟨h.lo, set_at _ hd5, (Below.heap_setCell _ ⟨db, 1, none⟩ _ sb (fun e => h.apart.1 e.symm)).trans hs5, ?_, h.len, fun y hy => ?_, h.few⟩, ?_⟩
  · have h9 := ho.kept (grown_set w5 ⟨db, 1, none⟩ (.slice ao m c)) (.inr hne)
    simpa using h9
  · rcases List.mem_append.1 hy with hy | hy
    · exact h.ok y hy
    · obtain rfl : y = x := by simpa using hy
      exact hx
  · exact ⟨(Keep.of_grown hg (fun k hk => .inr (.inr hk))).trans (Keep.set w5 _ _ (.inl rfl)), hfr⟩

section
variable {base : Nat} {w : World} {db sb n : Nat} {vw : Value} {S : List (List UInt8)} {Q : List Wr} {lf : Nat}

set_option maxHeartbeats 8000000 in
theorem write_gen (h : Dk base w db sb n vw S Q false lf) (hlf : lf ≤ 9223372036854775807) (x : Value) (l : List UInt8) (k : Nat) (s : List UInt8) (hk : S[k]? = some s) (hkn : k < n) (hx : Rd w x l) (hl : l.length = 64) (hq : Q.length ≤ 100000) :
    Calls Tryz.prog 144 #[.pointer (some ⟨db, 0, none⟩), .int .i64 (k : Int), x] w (fun e w' => e = .returned (.int .i64 (hitE lf)) ∧ ∃ vw', Dk base w' db sb n vw' (S.set k l) (Q ++ [⟨k, s, l⟩]) (hitD lf) (lf - 1) ∧ Dfr db sb vw vw' w w') := by
  have hlt : k < S.length := (List.getElem?_eq_some_iff.1 hk).1
  have hnS := h.few.1
  have hs := h.len s (List.mem_of_getElem? hk)
  obtain ⟨he, hhe⟩ : ∃ x, x = hitE lf := ⟨_, rfl⟩
  obtain ⟨hdn, hhd⟩ : ∃ x, x = hitD lf := ⟨_, rfl⟩
  obtain ⟨lg, hlg⟩ : ∃ x, x = lf - 1 := ⟨_, rfl⟩
  rw [← hhe, ← hhd, ← hlg]
  have HHE : Hid (he = hitE lf ∧ hdn = hitD lf ∧ lg = lf - 1) := ⟨hhe, hhd, hlg⟩
  clear hhe hhd hlg
  obtain ⟨xo, xc, rfl, -⟩ := id hx
  obtain ⟨xb, xoff, rfl, hxr⟩ := rd_range hx (by omega)
  rw [hl]
  obtain ⟨c0, c1, c2, c3, f0, f1, f2, f3⟩ := four_cells h.hd
  have CA : Hid (Calls Tryz.prog 45 #[.pointer (some ⟨db, 0, none⟩)] w (fun e w' => e = .returned (.int .i64 0) ∧ w' = w)) := able_any h
  have CH : Hid (Calls Tryz.prog 136 #[.pointer (some ⟨db, 0, none⟩), .int .i64 (k : Int)] w (fun e w' => e = .returned (.bool true) ∧ w' = w)) := by
    have := has_any h (k : Int)
    rw [decide_eq_true (by omega)] at this
    exact this
  obtain ⟨R, hR⟩ : ∃ R, R = (rowW ⟨k, s, l⟩).toArray := ⟨_, rfl⟩
  have hRs : R.size = 129 := by rw [hR]; simp [rowW, hs, hl]
  have hR1 : R.all (·.oneCell') = true := by rw [hR]; exact all_oneCell_toArray (rowW_one _)
  have hbd : ∀ W, (Instr.build 110 #[(0, .int .i64 (k : Int)), (1, .agg (s.map bv).toArray), (2, .agg (l.map bv).toArray)]).run Tryz.prog W = .ok (.agg R) W := fun W => by
    have h := run_build (P := Tryz.prog) W 110 #[(0, .int .i64 (k : Int)), (1, .agg (s.map bv).toArray), (2, .agg (l.map bv).toArray)] _ (built_write (k : Int) (s.map bv).toArray (l.map bv).toArray (by simp [hs]) (by simp [hl]))
    rw [h, hR]
    simp [rowW]
  have HRE := hid hR
  clear hR
  have hu65 := Tryz.underlying108
  have hi1 : (Tryz.prog.info? 108).map (·.size) = some (s.map bv).length := by rw [size_sector, List.length_map, hs]
  have hi2 : (Tryz.prog.info? 108).map (·.size) = some (l.map bv).length := by rw [size_sector, List.length_map, hl]
  have harr := run_array ⟨xb, xoff, none⟩ xc
  have hsr := h.sec hk
  have H := hid h
  have HX := hid hx
  have HK := hid hk
  clear h hx hk
  go_enter Tryz.func144, Tryz.ntmps144
  go_upto_region 6 with (first
    | (go_at_call 45; refine CA.out.mono ?_; rintro e w2 ⟨rfl, rfl⟩)
    | (go_at_call 136; refine CH.out.mono ?_; rintro e w2 ⟨rfl, rfl⟩))
  obtain ⟨S6, hS6⟩ : ∃ S6 : World → Prop, S6 = fun W => W.cell? ⟨db, 0, none⟩ = some (.slice (some ⟨sb, 0, none⟩) n S.length) ∧ W.rangeAt sb (k * 64) (s.map bv) ∧ W.rangeAt xb xoff (l.map bv) := ⟨_, rfl⟩
  have hT : ∀ W, S6 W → W.cell? ⟨db, 0, none⟩ = some (.slice (some ⟨sb, 0, none⟩) n S.length) ∧ W.rangeAt sb (k * 64) (s.map bv) ∧ W.rangeAt xb xoff (l.map bv) := fun W h => by rw [hS6] at h; exact h
  have hU : ∀ W, W.cell? ⟨db, 0, none⟩ = some (.slice (some ⟨sb, 0, none⟩) n S.length) → W.rangeAt sb (k * 64) (s.map bv) → W.rangeAt xb xoff (l.map bv) → S6 W := fun W h1 h2 h3 => by rw [hS6]; exact ⟨h1, h2, h3⟩
  clear hS6
  refine wp_region_noPanic ?_
  refine wp_region_held_drew (S := S6) (by kernel_rfl) (hU _ c0 (by rw [World.rangeAt_drew]; exact hsr) (by rw [World.rangeAt_drew]; exact hxr)) (fun hHeld => ?_)
  refine wpAnyH_take (i := 0) (v := (.int .i64 (k : Int))) rfl (by kernel_rfl) (by kernel_rfl) (by kernel_rfl) (fun _ _ _ h => (show False from h).elim) (Or.inl ⟨by rfl, fun W hW => by clear hT hHeld hsr hxr; go_simp⟩) hHeld ?_
  simp only [Act.put, List.getElem_toArray, List.getElem_cons_succ, List.getElem_cons_zero, List.setIfInBounds_toArray, List.set_cons_succ, List.set_cons_zero]
  refine wpAnyH_take (i := 1) (v := (.pointer (some ⟨db, 0, none⟩))) rfl (by kernel_rfl) (by kernel_rfl) (by kernel_rfl) (fun _ _ _ h => (show False from h).elim) (Or.inl ⟨by rfl, fun W hW => by clear hT hHeld hsr hxr; go_simp⟩) hHeld ?_
  simp only [Act.put, List.getElem_toArray, List.getElem_cons_succ, List.getElem_cons_zero, List.setIfInBounds_toArray, List.set_cons_succ, List.set_cons_zero]
  refine wpAnyH_take (i := 2) (v := (.pointer (some ⟨db, 0, none⟩))) rfl (by kernel_rfl) (by kernel_rfl) (by kernel_rfl) (fun _ _ _ h => (show False from h).elim) (Or.inl ⟨by rfl, fun W hW => by have hc := (hT W hW).1; clear hT hHeld hsr hxr; go_simp⟩) hHeld ?_
  simp only [Act.put, List.getElem_toArray, List.getElem_cons_succ, List.getElem_cons_zero, List.setIfInBounds_toArray, List.set_cons_succ, List.set_cons_zero]
  refine wpAnyH_take (i := 3) (v := (.pointer (some ⟨db, 0, none⟩))) rfl (by kernel_rfl) (by kernel_rfl) (by kernel_rfl) (fun _ _ _ h => (show False from h).elim) (Or.inl ⟨by rfl, fun W hW => by have hc := (hT W hW).1; clear hT hHeld hsr hxr; go_simp⟩) hHeld ?_
  simp only [Act.put, List.getElem_toArray, List.getElem_cons_succ, List.getElem_cons_zero, List.setIfInBounds_toArray, List.set_cons_succ, List.set_cons_zero]
  refine wpAnyH_take (i := 4) (v := (.slice (some ⟨sb, 0, none⟩) n S.length)) rfl (by kernel_rfl) (by kernel_rfl) (by kernel_rfl) (fun _ _ _ h => (show False from h).elim) (Or.inl ⟨by rfl, fun W hW => by have hc := (hT W hW).1; clear hT hHeld hsr hxr; go_simp⟩) hHeld ?_
  simp only [Act.put, List.getElem_toArray, List.getElem_cons_succ, List.getElem_cons_zero, List.setIfInBounds_toArray, List.set_cons_succ, List.set_cons_zero]
  refine wpAnyH_take (i := 5) (v := (.int .i64 (k : Int))) rfl (by kernel_rfl) (by kernel_rfl) (by kernel_rfl) (fun _ _ _ h => (show False from h).elim) (Or.inl ⟨by rfl, fun W hW => by clear hT hHeld hsr hxr; go_simp⟩) hHeld ?_
  simp only [Act.put, List.getElem_toArray, List.getElem_cons_succ, List.getElem_cons_zero, List.setIfInBounds_toArray, List.set_cons_succ, List.set_cons_zero]
  refine wpAnyH_take (i := 6) (v := (.pointer (some ⟨sb, k * 64, none⟩))) rfl (by kernel_rfl) (by kernel_rfl) (by kernel_rfl) (fun _ _ _ h => (show False from h).elim) (Or.inl ⟨by rfl, fun W hW => by have hc := (hT W hW).1; clear hT hHeld hsr hxr; go_simp⟩) hHeld ?_
  simp only [Act.put, List.getElem_toArray, List.getElem_cons_succ, List.getElem_cons_zero, List.setIfInBounds_toArray, List.set_cons_succ, List.set_cons_zero]
  refine wpAnyH_take (i := 7) (v := .agg (s.map bv).toArray) rfl (by kernel_rfl) (by kernel_rfl) (by kernel_rfl) (fun _ _ _ h => (show False from h).elim) ?yy7 hHeld ?rr7
  case yy7 =>
    refine yieldsIf_load_mid ?y1 108 (.tmp 29) ?y2 sb (k * 64) ?y3 (s.map bv) (.array 64 5) ?y4 hu65 ?y5 hi1
    case y1 => rfl
    case y2 => rfl
    case y3 => rfl
    case y4 => exact fun W hW => (hT W hW).2.1
    case y5 => rfl
  simp only [Act.put, List.getElem_toArray, List.getElem_cons_succ, List.getElem_cons_zero, List.setIfInBounds_toArray, List.set_cons_succ, List.set_cons_zero]
  refine wpAnyH_take (i := 8) (v := (.slice (some ⟨xb, xoff, none⟩) 64 xc)) rfl (by kernel_rfl) (by kernel_rfl) (by kernel_rfl) (fun _ _ _ h => (show False from h).elim) (Or.inl ⟨by rfl, fun W hW => by clear hT hHeld hsr hxr; go_simp⟩) hHeld ?_
  simp only [Act.put, List.getElem_toArray, List.getElem_cons_succ, List.getElem_cons_zero, List.setIfInBounds_toArray, List.set_cons_succ, List.set_cons_zero]
  refine wpAnyH_take (i := 9) (v := (.pointer (some ⟨xb, xoff, none⟩))) rfl (by kernel_rfl) (by kernel_rfl) (by kernel_rfl) (fun _ _ _ h => (show False from h).elim) (Or.inl ⟨by rfl, fun W hW => by have hc := (hT W hW).1; clear hT hHeld hsr hxr; go_simp⟩) hHeld ?_
  simp only [Act.put, List.getElem_toArray, List.getElem_cons_succ, List.getElem_cons_zero, List.setIfInBounds_toArray, List.set_cons_succ, List.set_cons_zero]
  refine wpAnyH_take (i := 10) (v := .agg (l.map bv).toArray) rfl (by kernel_rfl) (by kernel_rfl) (by kernel_rfl) (fun _ _ _ h => (show False from h).elim) ?yy10 hHeld ?rr10
  case yy10 =>
    refine yieldsIf_load_mid ?zy1 108 (.tmp 32) ?zy2 xb xoff ?zy3 (l.map bv) (.array 64 5) ?zy4 hu65 ?zy5 hi2
    case zy1 => rfl
    case zy2 => rfl
    case zy3 => rfl
    case zy4 => exact fun W hW => (hT W hW).2.2
    case zy5 => rfl
  simp only [Act.put, List.getElem_toArray, List.getElem_cons_succ, List.getElem_cons_zero, List.setIfInBounds_toArray, List.set_cons_succ, List.set_cons_zero]
  refine wpAnyH_take (i := 11) (v := (.agg R)) rfl (by kernel_rfl) (by kernel_rfl) (by kernel_rfl) (fun _ _ _ h => (show False from h).elim) ?yy11 hHeld ?rr11
  case yy11 =>
    refine Or.inl ⟨by rfl, fun W hW => ?_⟩
    exact exec_build rfl ((congrArg (fun p => (Instr.build 110 p).run Tryz.prog W) (by simp only [List.map_toArray, List.map_cons, List.map_nil]; rfl)).trans (hbd W))
  simp only [Act.put, List.getElem_toArray, List.getElem_cons_succ, List.getElem_cons_zero, List.setIfInBounds_toArray, List.set_cons_succ, List.set_cons_zero]
  refine wpAnyH_all (rs := [12]) (by kernel_rfl) (by simp) (fun i hi => ?_)
  obtain rfl : i = 12 := by simpa using hi
  unfold wpOp
  simp only [List.getElem?_toArray, List.getElem?_cons_succ, List.getElem?_cons_zero]
  rw [if_pos (by rfl)]
  go_simp
  refine .inl ⟨hU _ ?sc (by first | exact World.rangeAt_alloc (by rw [World.rangeAt_drew]; exact hsr) _ | (rw [World.rangeAt_drew]; exact World.rangeAt_alloc hsr _)) (by first | exact World.rangeAt_alloc (by rw [World.rangeAt_drew]; exact hxr) _ | (rw [World.rangeAt_drew]; exact World.rangeAt_alloc hxr _)), ?sr⟩
  case sc =>
    have h9 := (((Below.refl w2.heap.size w2).alloc (Nat.le_refl _) (.cells Tryz.zeroCells110 110)).cell (p := ⟨db, 0, none⟩) (World.block_lt_of_cell? w2 _ c0)).trans c0
    exact h9
  refine wpAnyH_all (rs := [13]) (by kernel_rfl) (by simp) (fun i hi => ?_)
  obtain rfl : i = 13 := by simpa using hi
  unfold wpOp
  simp only [List.getElem?_toArray, List.getElem?_cons_succ, List.getElem?_cons_zero]
  rw [if_pos (by rfl)]
  have hst : (Instr.storeAt 110 (.pointer (some ⟨w2.heap.size, 0, none⟩)) (.agg R)).run Tryz.prog (w2.alloc (.cells Tryz.zeroCells110 110)).drew = .ok () (w2.alloc (.cells R 110)).drew :=
    run_storeAt_new (P := Tryz.prog) w2.drew 110 Tryz.zeroCells110 R (by rw [size_write, hRs]) (by rw [zero_write, hRs]) hR1
  unfold Oper.wp
  rw [exec_store (t := 110) (x := .tmp 8) (y := .tmp 34) rfl hst]
  simp only [Oper.upon]
  refine .inl ⟨hU _ ?sc2 (by rw [World.rangeAt_drew]; exact World.rangeAt_alloc hsr _) (by rw [World.rangeAt_drew]; exact World.rangeAt_alloc hxr _), ?sr2⟩
  case sc2 => exact (((Below.refl w2.heap.size w2).alloc (Nat.le_refl _) (.cells R 110)).cell (p := ⟨db, 0, none⟩) (World.block_lt_of_cell? w2 _ c0)).trans c0
  refine wpAnyH_done (by kernel_rfl) (NoPanic.normal ?_) _
  simp only [Act.put, List.getElem_toArray, List.getElem_cons_succ, List.getElem_cons_zero, List.setIfInBounds_toArray, List.set_cons_succ, List.set_cons_zero]
  go_upto_region 7 with fail
  have hb3 : Below w2.heap.size w2 (w2.alloc (.cells R 110)).drew := ((Below.refl _ _).alloc (Nat.le_refl _) _).drew
  have hx3 : (w2.alloc (.cells R 110)).drew.heap[w2.heap.size]? = some (.cells R 110 (0, 0)) := heap_alloc_new _ _
  have hlt2 : w2.heap.size < (w2.alloc (.cells R 110)).drew.heap.size := lt_of_block hx3
  generalize (w2.alloc (.cells R 110)).drew = w3 at *
  have H3 := hid (H.out.old hb3)
  obtain ⟨bx, hbx⟩ : ∃ bx, bx = w2.heap.size := ⟨_, rfl⟩
  rw [← hbx] at hx3 hlt2 ⊢
  have HBX := hid hbx
  have HX3 := hid hx3
  have HB3 := hid hb3
  clear hbx c0 c1 c2 c3 f0 f1 f2 f3 hsr hxr hT hU hHeld hst hi1 hi2 hu65 harr hbd
  obtain ⟨c0, c1, c2, c3, f0, f1, f2, f3⟩ := four_cells H3.out.hd
  obtain ⟨vo, vc, hvw⟩ := wait_form H3.out
  have hltS : k < S.length := hlt
  have hne1 : db ≠ bx := by have h1 := lt_of_block H.out.hd; have h2 := HBX.out; omega
  have hvb : vw.ownBlock ≠ some bx := fun e => by
    have h1 := (H.out.wa.lt bx e).2
    have h2 := HBX.out
    omega
  go_cut [6] from 35 to 44 (fun z wx => z = .int .i64 0 ∧ ∃ vw5, Dk base wx db sb n vw5 S (Q ++ [⟨k, s, l⟩]) false lf ∧ wx.heap[bx]? = some (.cells R 110 (0, 0)) ∧ Dfr db sb vw vw5 w3 wx)
  case first =>
    obtain ⟨S7, hS7⟩ : ∃ S7 : World → Prop, S7 = fun W => W.heap[bx]? = some (.cells R 110 (0, 0)) := ⟨_, rfl⟩
    have hV : ∀ W, S7 W → W.heap[bx]? = some (.cells R 110 (0, 0)) := fun W h => by rw [hS7] at h; exact h
    have hV2 : ∀ W, W.heap[bx]? = some (.cells R 110 (0, 0)) → S7 W := fun W h1 => by rw [hS7]; exact h1
    clear hS7
    refine wp_region_noPanic ?_
    refine wp_region_held_drew (S := S7) (by kernel_rfl) (hV2 _ hx3) (fun hX7 => ?_)
    refine wpAnyH_take (i := 0) (v := (.pointer (some ⟨db, 0, none⟩))) rfl (by kernel_rfl) (by kernel_rfl) (by kernel_rfl) (fun _ _ _ h => (show False from h).elim) ?xyF0 ?xhF0 ?xrF0
    case xhF0 => exact hX7
    case xyF0 => exact Or.inl ⟨by rfl, fun W hW => by clear hV hX7; simp only [List.getElem_toArray, List.getElem_cons_succ, List.getElem_cons_zero]; go_simp⟩
    simp only [Act.put, List.getElem_toArray, List.getElem_cons_succ, List.getElem_cons_zero, List.setIfInBounds_toArray, List.set_cons_succ, List.set_cons_zero]
    refine wpAnyH_take (i := 1) (v := (.pointer (some ⟨db, 0, none⟩))) rfl (by kernel_rfl) (by kernel_rfl) (by kernel_rfl) (fun _ _ _ h => (show False from h).elim) ?xyF1 ?xhF1 ?xrF1
    case xhF1 => exact hX7
    case xyF1 => exact Or.inl ⟨by rfl, fun W hW => by clear hV hX7; simp only [List.getElem_toArray, List.getElem_cons_succ, List.getElem_cons_zero]; go_simp⟩
    simp only [Act.put, List.getElem_toArray, List.getElem_cons_succ, List.getElem_cons_zero, List.setIfInBounds_toArray, List.set_cons_succ, List.set_cons_zero]
    refine wpAnyH_take (i := 2) (v := (.pointer (some ⟨db, 0, none⟩))) rfl (by kernel_rfl) (by kernel_rfl) (by kernel_rfl) (fun _ _ _ h => (show False from h).elim) ?xyF2 ?xhF2 ?xrF2
    case xhF2 => exact hX7
    case xyF2 => exact Or.inl ⟨by rfl, fun W hW => by clear hV hX7; simp only [List.getElem_toArray, List.getElem_cons_succ, List.getElem_cons_zero]; go_simp⟩
    simp only [Act.put, List.getElem_toArray, List.getElem_cons_succ, List.getElem_cons_zero, List.setIfInBounds_toArray, List.set_cons_succ, List.set_cons_zero]
    refine wpAnyH_take (i := 3) (v := (.pointer (some ⟨db, 1, none⟩))) rfl (by kernel_rfl) (by kernel_rfl) (by kernel_rfl) (fun _ _ _ h => (show False from h).elim) ?xyF3 ?xhF3 ?xrF3
    case xhF3 => exact hX7
    case xyF3 => exact Or.inl ⟨by rfl, fun W hW => by clear hV hX7; simp only [List.getElem_toArray, List.getElem_cons_succ, List.getElem_cons_zero]; go_simp⟩
    simp only [Act.put, List.getElem_toArray, List.getElem_cons_succ, List.getElem_cons_zero, List.setIfInBounds_toArray, List.set_cons_succ, List.set_cons_zero]
    refine wpAnyH_take (i := 5) (v := (.agg R)) rfl (by kernel_rfl) (by kernel_rfl) (by kernel_rfl) (fun _ _ _ h => (show False from h).elim) ?xyF5 ?xhF5 ?xrF5
    case xhF5 => exact hX7
    case xyF5 => exact Or.inl ⟨by rfl, fun W hW => by simp only [List.getElem_toArray, List.getElem_cons_succ, List.getElem_cons_zero]; exact exec_load (t := 110) (x := .tmp 8) rfl (load_whole hRs (hV W hW))⟩
    simp only [Act.put, List.getElem_toArray, List.getElem_cons_succ, List.getElem_cons_zero, List.setIfInBounds_toArray, List.set_cons_succ, List.set_cons_zero]
    refine wpAnyH_all (rs := [4, 6]) (by kernel_rfl) (by simp) (fun i hi => ?_)
    have hi2 : i = 4 ∨ i = 6 := by simpa using hi
    clear hi
    rcases hi2 with rfl | rfl
    · unfold wpOp
      simp only [List.getElem?_toArray, List.getElem?_cons_succ, List.getElem?_cons_zero]
      rw [if_pos (by rfl)]
      unfold Oper.wp
      rw [exec_load (t := 70) (x := .tmp 38) (v := vw) rfl (run_one (W := w3.drew) c1)]
      simp only [Oper.upon]
      refine .inl ⟨hX7, ?_⟩
      simp only [Act.put, List.getElem_toArray, List.getElem_cons_succ, List.getElem_cons_zero, List.setIfInBounds_toArray, List.set_cons_succ, List.set_cons_zero]
      refine wpAnyH_all (rs := [6]) (by kernel_rfl) (by simp) (fun i hi => ?_)
      obtain rfl : i = 6 := by simpa using hi
      unfold wpOp
      simp only [List.getElem?_toArray, List.getElem?_cons_succ, List.getElem?_cons_zero]
      rw [if_pos (by rfl)]
      unfold Oper.wp
      rw [exec_buildSlice (t := 70) (n := 1) (parts := #[(0, .tmp 40)]) rfl ((congrArg (fun p => (Instr.buildSlice 70 1 p).run Tryz.prog w3.drew) (by simp only [List.map_toArray, List.map_cons, List.map_nil]; rfl)).trans (run_buildOne R hRs w3.drew))]
      simp only [Oper.upon]
      have hba : Below w3.heap.size w3 (w3.drew.alloc (.cells R 110)) := ((Below.refl _ _).drew.alloc (Nat.le_refl _) _)
      have hya : (w3.drew.alloc (.cells R 110)).heap[w3.heap.size]? = some (.cells R 110 (0, 0)) := heap_alloc_new _ _
      have hsz3 : w3.drew.heap.size = w3.heap.size := rfl
      rw [hsz3]
      generalize w3.drew.alloc (.cells R 110) = w4 at *
      have H4 := hid (H3.out.old hba)
      have c14 := (four_cells H4.out.hd).2.1
      have hx4 := (hba.block _ hlt2).trans HX3.out
      refine .inl ⟨hV2 _ hx4, ?_⟩
      simp only [Act.put, List.getElem_toArray, List.getElem_cons_succ, List.getElem_cons_zero, List.setIfInBounds_toArray, List.set_cons_succ, List.set_cons_zero]
      refine wpAnyH_all (rs := [7]) (by kernel_rfl) (by simp) (fun i hi => ?_)
      obtain rfl : i = 7 := by simpa using hi
      unfold wpOp
      simp only [List.getElem?_toArray, List.getElem?_cons_succ, List.getElem?_cons_zero]
      have hrw : Rws 129 w4 (.slice (some ⟨w3.heap.size, 0, none⟩) 1 1) [rowW ⟨k, s, l⟩] := row_rws hya HRE.out hs hl
      rw [if_pos (by rfl)]
      refine .inl (step_rapp (.tmp 39) (.tmp 41) 70 ?ap2a base 129 136 110 Tryz.underlying70 _ info_write (by simp [Value.cells]) (by decide) vw Q.length (Q.map rowW).flatten ?ap3a H4.out.wa (.slice (some ⟨w3.heap.size, 0, none⟩) 1 1) [rowW ⟨k, s, l⟩] ?ap4a hrw (by simp only [List.length_cons, List.length_nil]; omega) (by unfold maxLen; simp only [List.length_cons, List.length_nil]; omega) (Nat.le_trans H4.out.lo.1 (Nat.le_of_lt (lt_of_block H4.out.hd))) ?ap5a)
      case ap2a => rfl
      case ap3a => rfl
      case ap4a => rfl
      intro v5 w5 ho5 hg5 hf5
      obtain ⟨vo5, vc5, rfl⟩ := own_form ho5
      have c15 : w5.cell? ⟨db, 1, none⟩ = some vw := by
        rw [World.cell?_of_block (w := w4) (a := ⟨db, 1, none⟩) (hg5.block _ (lt_of_block H4.out.hd) (fun e => H4.out.apart.2.1 e.symm))]
        exact c14
      have f15 : w5.frozen? ⟨db, 1, none⟩ = false := by
        rw [World.frozen?_of_block (w := w4) (a := ⟨db, 1, none⟩) (hg5.block _ (lt_of_block H4.out.hd) (fun e => H4.out.apart.2.1 e.symm))]
        exact (four_cells H4.out.hd).2.2.2.2.2.1
      have hx5 : w5.heap[bx]? = some (.cells R 110 (0, 0)) := (hg5.block _ (lt_of_block hx4) (fun e => hvb e.symm)).trans hx4
      have hX5 := hV2 _ hx5
      refine ⟨hX5, ?_⟩
      simp only [Act.put, List.getElem_toArray, List.getElem_cons_succ, List.getElem_cons_zero, List.setIfInBounds_toArray, List.set_cons_succ, List.set_cons_zero]
      refine wpAnyH_take (i := 8) (v := (.pointer (some ⟨db, 0, none⟩))) rfl (by kernel_rfl) (by kernel_rfl) (by kernel_rfl) (fun _ _ _ h => (show False from h).elim) ?xyEa8 ?xhEa8 ?xrEa8
      case xhEa8 => exact hX5
      case xyEa8 => exact Or.inl ⟨by rfl, fun W hW => by clear hV hX7 hX5; simp only [List.getElem_toArray, List.getElem_cons_succ, List.getElem_cons_zero]; go_simp⟩
      simp only [Act.put, List.getElem_toArray, List.getElem_cons_succ, List.getElem_cons_zero, List.setIfInBounds_toArray, List.set_cons_succ, List.set_cons_zero]
      refine wpAnyH_take (i := 9) (v := (.pointer (some ⟨db, 1, none⟩))) rfl (by kernel_rfl) (by kernel_rfl) (by kernel_rfl) (fun _ _ _ h => (show False from h).elim) ?xyEa9 ?xhEa9 ?xrEa9
      case xhEa9 => exact hX5
      case xyEa9 => exact Or.inl ⟨by rfl, fun W hW => by clear hV hX7 hX5; simp only [List.getElem_toArray, List.getElem_cons_succ, List.getElem_cons_zero]; go_simp⟩
      simp only [Act.put, List.getElem_toArray, List.getElem_cons_succ, List.getElem_cons_zero, List.setIfInBounds_toArray, List.set_cons_succ, List.set_cons_zero]
      refine wpAnyH_all (rs := [10]) (by kernel_rfl) (by simp) (fun i hi => ?_)
      obtain rfl : i = 10 := by simpa using hi
      unfold wpOp
      simp only [List.getElem?_toArray, List.getElem?_cons_succ, List.getElem?_cons_zero]
      rw [if_pos (by rfl)]
      have HX5 := hid hx5
      have HV2 := hid hV2
      clear hV hV2 hX7 hX5 hx5 hx4
      go_simp
      have hfin := H4.out.app hg5 ho5 ⟨hkn, hs, hl⟩ hf5
      have hfx : (w5.setCell ⟨db, 1, none⟩ (.slice vo5 (Q.length + 1) vc5)).heap[bx]? = some (.cells R 110 (0, 0)) := (Below.heap_setCell _ ⟨db, 1, none⟩ _ bx (fun e => hne1 e.symm)).trans HX5.out
      refine .inl ⟨HV2.out _ hfx, ?_⟩
      refine wpAnyH_done (by kernel_rfl) (NoPanic.normal ?_) _
      have HBA := hid hba
      clear c14 c15 f15 hrw hya hg5 ho5 hf5
      simp only [List.length_cons, List.length_nil] at hfin
      go_wp2_with fail
      go_meet
      exact ⟨rfl, _, hfin.1, hfx, (Dfr.of_below HBA.out).trans hfin.2⟩
    · unfold wpOp
      simp only [List.getElem?_toArray, List.getElem?_cons_succ, List.getElem?_cons_zero]
      rw [if_pos (by rfl)]
      unfold Oper.wp
      rw [exec_buildSlice (t := 70) (n := 1) (parts := #[(0, .tmp 40)]) rfl ((congrArg (fun p => (Instr.buildSlice 70 1 p).run Tryz.prog w3.drew) (by simp only [List.map_toArray, List.map_cons, List.map_nil]; rfl)).trans (run_buildOne R hRs w3.drew))]
      simp only [Oper.upon]
      have hba : Below w3.heap.size w3 (w3.drew.alloc (.cells R 110)) := ((Below.refl _ _).drew.alloc (Nat.le_refl _) _)
      have hya : (w3.drew.alloc (.cells R 110)).heap[w3.heap.size]? = some (.cells R 110 (0, 0)) := heap_alloc_new _ _
      have hsz3 : w3.drew.heap.size = w3.heap.size := rfl
      rw [hsz3]
      generalize w3.drew.alloc (.cells R 110) = w4 at *
      have H4 := hid (H3.out.old hba)
      have c14 := (four_cells H4.out.hd).2.1
      have hx4 := (hba.block _ hlt2).trans HX3.out
      refine .inl ⟨hV2 _ hx4, ?_⟩
      simp only [Act.put, List.getElem_toArray, List.getElem_cons_succ, List.getElem_cons_zero, List.setIfInBounds_toArray, List.set_cons_succ, List.set_cons_zero]
      refine wpAnyH_all (rs := [4]) (by kernel_rfl) (by simp) (fun i hi => ?_)
      obtain rfl : i = 4 := by simpa using hi
      unfold wpOp
      simp only [List.getElem?_toArray, List.getElem?_cons_succ, List.getElem?_cons_zero]
      rw [if_pos (by rfl)]
      unfold Oper.wp
      rw [exec_load (t := 70) (x := .tmp 38) (v := vw) rfl (run_one c14)]
      simp only [Oper.upon]
      refine .inl ⟨hV2 _ hx4, ?_⟩
      simp only [Act.put, List.getElem_toArray, List.getElem_cons_succ, List.getElem_cons_zero, List.setIfInBounds_toArray, List.set_cons_succ, List.set_cons_zero]
      refine wpAnyH_all (rs := [7]) (by kernel_rfl) (by simp) (fun i hi => ?_)
      obtain rfl : i = 7 := by simpa using hi
      unfold wpOp
      simp only [List.getElem?_toArray, List.getElem?_cons_succ, List.getElem?_cons_zero]
      have hrw : Rws 129 w4 (.slice (some ⟨w3.heap.size, 0, none⟩) 1 1) [rowW ⟨k, s, l⟩] := row_rws hya HRE.out hs hl
      rw [if_pos (by rfl)]
      refine .inl (step_rapp (.tmp 39) (.tmp 41) 70 ?ap2b base 129 136 110 Tryz.underlying70 _ info_write (by simp [Value.cells]) (by decide) vw Q.length (Q.map rowW).flatten ?ap3b H4.out.wa (.slice (some ⟨w3.heap.size, 0, none⟩) 1 1) [rowW ⟨k, s, l⟩] ?ap4b hrw (by simp only [List.length_cons, List.length_nil]; omega) (by unfold maxLen; simp only [List.length_cons, List.length_nil]; omega) (Nat.le_trans H4.out.lo.1 (Nat.le_of_lt (lt_of_block H4.out.hd))) ?ap5b)
      case ap2b => rfl
      case ap3b => rfl
      case ap4b => rfl
      intro v5 w5 ho5 hg5 hf5
      obtain ⟨vo5, vc5, rfl⟩ := own_form ho5
      have c15 : w5.cell? ⟨db, 1, none⟩ = some vw := by
        rw [World.cell?_of_block (w := w4) (a := ⟨db, 1, none⟩) (hg5.block _ (lt_of_block H4.out.hd) (fun e => H4.out.apart.2.1 e.symm))]
        exact c14
      have f15 : w5.frozen? ⟨db, 1, none⟩ = false := by
        rw [World.frozen?_of_block (w := w4) (a := ⟨db, 1, none⟩) (hg5.block _ (lt_of_block H4.out.hd) (fun e => H4.out.apart.2.1 e.symm))]
        exact (four_cells H4.out.hd).2.2.2.2.2.1
      have hx5 : w5.heap[bx]? = some (.cells R 110 (0, 0)) := (hg5.block _ (lt_of_block hx4) (fun e => hvb e.symm)).trans hx4
      have hX5 := hV2 _ hx5
      refine ⟨hX5, ?_⟩
      simp only [Act.put, List.getElem_toArray, List.getElem_cons_succ, List.getElem_cons_zero, List.setIfInBounds_toArray, List.set_cons_succ, List.set_cons_zero]
      refine wpAnyH_take (i := 8) (v := (.pointer (some ⟨db, 0, none⟩))) rfl (by kernel_rfl) (by kernel_rfl) (by kernel_rfl) (fun _ _ _ h => (show False from h).elim) ?xyEb8 ?xhEb8 ?xrEb8
      case xhEb8 => exact hX5
      case xyEb8 => exact Or.inl ⟨by rfl, fun W hW => by clear hV hX7 hX5; simp only [List.getElem_toArray, List.getElem_cons_succ, List.getElem_cons_zero]; go_simp⟩
      simp only [Act.put, List.getElem_toArray, List.getElem_cons_succ, List.getElem_cons_zero, List.setIfInBounds_toArray, List.set_cons_succ, List.set_cons_zero]
      refine wpAnyH_take (i := 9) (v := (.pointer (some ⟨db, 1, none⟩))) rfl (by kernel_rfl) (by kernel_rfl) (by kernel_rfl) (fun _ _ _ h => (show False from h).elim) ?xyEb9 ?xhEb9 ?xrEb9
      case xhEb9 => exact hX5
      case xyEb9 => exact Or.inl ⟨by rfl, fun W hW => by clear hV hX7 hX5; simp only [List.getElem_toArray, List.getElem_cons_succ, List.getElem_cons_zero]; go_simp⟩
      simp only [Act.put, List.getElem_toArray, List.getElem_cons_succ, List.getElem_cons_zero, List.setIfInBounds_toArray, List.set_cons_succ, List.set_cons_zero]
      refine wpAnyH_all (rs := [10]) (by kernel_rfl) (by simp) (fun i hi => ?_)
      obtain rfl : i = 10 := by simpa using hi
      unfold wpOp
      simp only [List.getElem?_toArray, List.getElem?_cons_succ, List.getElem?_cons_zero]
      rw [if_pos (by rfl)]
      have HX5 := hid hx5
      have HV2 := hid hV2
      clear hV hV2 hX7 hX5 hx5 hx4
      go_simp
      have hfin := H4.out.app hg5 ho5 ⟨hkn, hs, hl⟩ hf5
      have hfx : (w5.setCell ⟨db, 1, none⟩ (.slice vo5 (Q.length + 1) vc5)).heap[bx]? = some (.cells R 110 (0, 0)) := (Below.heap_setCell _ ⟨db, 1, none⟩ _ bx (fun e => hne1 e.symm)).trans HX5.out
      refine .inl ⟨HV2.out _ hfx, ?_⟩
      refine wpAnyH_done (by kernel_rfl) (NoPanic.normal ?_) _
      have HBA := hid hba
      clear c14 c15 f15 hrw hya hg5 ho5 hf5
      simp only [List.length_cons, List.length_nil] at hfin
      go_wp2_with fail
      go_meet
      exact ⟨rfl, _, hfin.1, hfx, (Dfr.of_below HBA.out).trans hfin.2⟩
  case rest =>
    obtain ⟨rfl, vw5, hD5, hx5, hb5⟩ := hcut
    generalize wc = w5 at *
    clear c0 c1 c2 c3 f0 f1 f2 f3 hx3
    obtain ⟨c0, c1, c2, c3, f0, f1, f2, f3⟩ := four_cells hD5.hd
    have HD5 := hid hD5
    have HX5 := hid hx5
    have HB5 := hid hb5
    clear hD5 hx5 hb5
    go_upto_region 8 with fail
    have hrg : w5.rangeAt bx 65 (l.map bv) := fun j v hv => by
      unfold World.cell?
      rw [HX5.out]
      show R[65 + j]? = some v
      rw [HRE.out]
      show (rowW ⟨k, s, l⟩).toArray[65 + j]? = some v
      rw [List.getElem?_toArray]
      unfold rowW
      rw [show 65 + j = (64 + j) + 1 from by omega, List.getElem?_cons_succ, List.getElem?_append_right (by simp [hs])]
      rw [show 64 + j - (s.map bv).length = j from by rw [List.length_map, hs]; omega]
      exact hv
    have hth := HD5.out.there hltS
    obtain ⟨S8, hS8⟩ : ∃ S8 : World → Prop, S8 = fun W => W.cell? ⟨db, 0, none⟩ = some (.slice (some ⟨sb, 0, none⟩) n S.length) ∧ W.rangeAt bx 65 (l.map bv) := ⟨_, rfl⟩
    have hY : ∀ W, S8 W → W.cell? ⟨db, 0, none⟩ = some (.slice (some ⟨sb, 0, none⟩) n S.length) ∧ W.rangeAt bx 65 (l.map bv) := fun W h => by rw [hS8] at h; exact h
    have hY2 : ∀ W, W.cell? ⟨db, 0, none⟩ = some (.slice (some ⟨sb, 0, none⟩) n S.length) → W.rangeAt bx 65 (l.map bv) → S8 W := fun W h1 h2 => by rw [hS8]; exact ⟨h1, h2⟩
    clear hS8
    refine wp_region_noPanic ?_
    refine wp_region_held_drew (S := S8) (by kernel_rfl) (hY2 _ c0 (by rw [World.rangeAt_drew]; exact hrg)) (fun hX8 => ?_)
    refine wpAnyH_take (i := 0) (v := (.pointer (some ⟨db, 0, none⟩))) rfl (by kernel_rfl) (by kernel_rfl) (by kernel_rfl) (fun _ _ _ h => (show False from h).elim) ?xyH0 ?xhH0 ?xrH0
    case xhH0 => exact hX8
    case xyH0 => exact Or.inl ⟨by rfl, fun W hW => by have hc := (hY W hW).1; clear hY hX8; simp only [List.getElem_toArray, List.getElem_cons_succ, List.getElem_cons_zero]; go_simp⟩
    simp only [Act.put, List.getElem_toArray, List.getElem_cons_succ, List.getElem_cons_zero, List.setIfInBounds_toArray, List.set_cons_succ, List.set_cons_zero]
    refine wpAnyH_take (i := 1) (v := (.pointer (some ⟨db, 0, none⟩))) rfl (by kernel_rfl) (by kernel_rfl) (by kernel_rfl) (fun _ _ _ h => (show False from h).elim) ?xyH1 ?xhH1 ?xrH1
    case xhH1 => exact hX8
    case xyH1 => exact Or.inl ⟨by rfl, fun W hW => by have hc := (hY W hW).1; clear hY hX8; simp only [List.getElem_toArray, List.getElem_cons_succ, List.getElem_cons_zero]; go_simp⟩
    simp only [Act.put, List.getElem_toArray, List.getElem_cons_succ, List.getElem_cons_zero, List.setIfInBounds_toArray, List.set_cons_succ, List.set_cons_zero]
    refine wpAnyH_take (i := 2) (v := (.pointer (some ⟨db, 0, none⟩))) rfl (by kernel_rfl) (by kernel_rfl) (by kernel_rfl) (fun _ _ _ h => (show False from h).elim) ?xyH2 ?xhH2 ?xrH2
    case xhH2 => exact hX8
    case xyH2 => exact Or.inl ⟨by rfl, fun W hW => by have hc := (hY W hW).1; clear hY hX8; simp only [List.getElem_toArray, List.getElem_cons_succ, List.getElem_cons_zero]; go_simp⟩
    simp only [Act.put, List.getElem_toArray, List.getElem_cons_succ, List.getElem_cons_zero, List.setIfInBounds_toArray, List.set_cons_succ, List.set_cons_zero]
    refine wpAnyH_take (i := 3) (v := (.slice (some ⟨sb, 0, none⟩) n S.length)) rfl (by kernel_rfl) (by kernel_rfl) (by kernel_rfl) (fun _ _ _ h => (show False from h).elim) ?xyH3 ?xhH3 ?xrH3
    case xhH3 => exact hX8
    case xyH3 => exact Or.inl ⟨by rfl, fun W hW => by have hc := (hY W hW).1; clear hY hX8; simp only [List.getElem_toArray, List.getElem_cons_succ, List.getElem_cons_zero]; go_simp⟩
    simp only [Act.put, List.getElem_toArray, List.getElem_cons_succ, List.getElem_cons_zero, List.setIfInBounds_toArray, List.set_cons_succ, List.set_cons_zero]
    refine wpAnyH_take (i := 4) (v := (.int .i64 (k : Int))) rfl (by kernel_rfl) (by kernel_rfl) (by kernel_rfl) (fun _ _ _ h => (show False from h).elim) ?xyH4 ?xhH4 ?xrH4
    case xhH4 => exact hX8
    case xyH4 => exact Or.inl ⟨by rfl, fun W hW => by have hc := (hY W hW).1; clear hY hX8; simp only [List.getElem_toArray, List.getElem_cons_succ, List.getElem_cons_zero]; go_simp⟩
    simp only [Act.put, List.getElem_toArray, List.getElem_cons_succ, List.getElem_cons_zero, List.setIfInBounds_toArray, List.set_cons_succ, List.set_cons_zero]
    refine wpAnyH_take (i := 5) (v := (.pointer (some ⟨bx, 65, none⟩))) rfl (by kernel_rfl) (by kernel_rfl) (by kernel_rfl) (fun _ _ _ h => (show False from h).elim) ?xyH5 ?xhH5 ?xrH5
    case xhH5 => exact hX8
    case xyH5 => exact Or.inl ⟨by rfl, fun W hW => by have hc := (hY W hW).1; clear hY hX8; simp only [List.getElem_toArray, List.getElem_cons_succ, List.getElem_cons_zero]; go_simp⟩
    simp only [Act.put, List.getElem_toArray, List.getElem_cons_succ, List.getElem_cons_zero, List.setIfInBounds_toArray, List.set_cons_succ, List.set_cons_zero]
    refine wpAnyH_take (i := 6) (v := (.agg (l.map bv).toArray)) rfl (by kernel_rfl) (by kernel_rfl) (by kernel_rfl) (fun _ _ _ h => (show False from h).elim) ?xyH6 ?xhH6 ?xrH6
    case xhH6 => exact hX8
    case xyH6 => exact Or.inl ⟨by rfl, fun W hW => by simp only [List.getElem_toArray, List.getElem_cons_succ, List.getElem_cons_zero]; exact exec_load (t := 108) (x := .tmp 50) rfl (run_loadAt_mid W bx 65 108 (l.map bv) _ (hY W hW).2 Tryz.underlying108 rfl (by rw [size_sector, List.length_map, hl]))⟩
    simp only [Act.put, List.getElem_toArray, List.getElem_cons_succ, List.getElem_cons_zero, List.setIfInBounds_toArray, List.set_cons_succ, List.set_cons_zero]
    refine wpAnyH_take (i := 7) (v := (.pointer (some ⟨sb, k * 64, none⟩))) rfl (by kernel_rfl) (by kernel_rfl) (by kernel_rfl) (fun _ _ _ h => (show False from h).elim) ?xyH7 ?xhH7 ?xrH7
    case xhH7 => exact hX8
    case xyH7 => exact Or.inl ⟨by rfl, fun W hW => by have hc := (hY W hW).1; clear hY hX8; simp only [List.getElem_toArray, List.getElem_cons_succ, List.getElem_cons_zero]; go_simp⟩
    simp only [Act.put, List.getElem_toArray, List.getElem_cons_succ, List.getElem_cons_zero, List.setIfInBounds_toArray, List.set_cons_succ, List.set_cons_zero]
    refine wpAnyH_all (rs := [8]) (by kernel_rfl) (by simp) (fun i hi => ?_)
    obtain rfl : i = 8 := by simpa using hi
    unfold wpOp
    simp only [List.getElem?_toArray, List.getElem?_cons_succ, List.getElem?_cons_zero]
    rw [if_pos (by rfl)]
    unfold Oper.wp
    have hst := run_storeAt_mid (P := Tryz.prog) w5.drew sb (k * 64) 108 (l.map bv).toArray (by rw [World.there_drew]; simpa [hl] using hth) (by rw [size_sector]; simp [hl]) (all_oneCell_toArray (bv_one l))
    rw [exec_store (t := 108) (x := .tmp 52) (y := .tmp 51) rfl hst]
    simp only [Oper.upon, List.toList_toArray]
    have hfin := (HD5.out.old ((Below.refl w5.heap.size w5).drew)).shown hltS hl
    have hbf : Dfr db sb vw5 vw5 w5 (w5.drew.setCells sb (k * 64) (l.map bv)) := ⟨Keep.setCells (.inr (.inl rfl)) _ _ _ _ (Keep.of_below ((Below.refl _ _).drew)), fun _ h => .inl h⟩
    have hD6 : Dk base (w5.drew.setCells sb (k * 64) (l.map bv)) db sb n vw5 (S.set k l) (Q ++ [⟨k, s, l⟩]) false lf := hfin
    have hX6 : (w5.drew.setCells sb (k * 64) (l.map bv)).heap[bx]? = some (.cells R 110 (0, 0)) := heap_setCells_other (w := w5.drew) HX5.out (fun e => by
      have h1 := HX5.out
      rw [e, HD5.out.sh] at h1
      simp at h1) _ _
    refine .inl ⟨hY2 _ ?sy1 ?sy2, ?_⟩
    case sy1 =>
      have h1 := (four_cells hD6.hd).1
      rw [List.length_set] at h1
      exact h1
    case sy2 =>
      intro j v hv
      rw [World.cell?_of_block (w := w5) (a := ⟨bx, 65 + j, none⟩) (hX6.trans HX5.out.symm)]
      exact hrg j v hv
    refine wpAnyH_done (by kernel_rfl) (NoPanic.normal ?_) _
    simp only [Act.put, List.getElem_toArray, List.getElem_cons_succ, List.getElem_cons_zero, List.setIfInBounds_toArray, List.set_cons_succ, List.set_cons_zero]

    generalize w5.drew.setCells sb (k * 64) (l.map bv) = w6 at *
    have HD6 := hid hD6
    have HB6 := hid hbf
    have CC0 := counted_gen hD6 hlf
    rw [← HHE.out.1, ← HHE.out.2.1, ← HHE.out.2.2] at CC0
    have CC := hid CC0
    clear hst hfin hbf hD6 hX6 hY hY2 hX8 hrg hth c0 c1 c2 c3 f0 f1 f2 f3 CC0
    go_wp2_with (first | (go_at_call 148; refine CC.out.mono ?_))
    rintro e w7 ⟨rfl, hD7, hF7⟩
    have HD7 := hid hD7
    have HF7 := hid hF7
    clear hD7 hF7
    go_wp2_with fail
    go_ret
    refine ⟨rfl, vw5, HD7.out, ?_⟩
    exact (((Dfr.of_below HB3.out).trans HB5.out).trans HB6.out).trans HF7.out

end
end Go.Proofs.YtddnleofflobhaaGreatDoor

