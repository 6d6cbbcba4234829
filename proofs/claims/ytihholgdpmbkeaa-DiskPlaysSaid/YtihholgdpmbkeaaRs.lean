/-
  THE DOCUMENT'S DISK: Show, Read.
-/
import Derived.Test.YtihholgdpmbkeaaRk
import Derived.Great.Walk
set_option linter.unusedVariables false
set_option maxRecDepth 100000
namespace Go.Proofs.Ytihholgdpmbkeaa
open Go.RowKit Go.Shelf

theorem size_64 : (Try.prog.info? 64).map (·.size) = some 64 := by kernel_rfl
def zc64 : Array Value := Array.replicate 64 (.int .u8 0)
theorem zero_64c : zc64.size = 64 := by simp [zc64]

theorem wp_ld {P : Program} {w : World} {ops : Array Oper} {rest : List Oper} {a : Act} {Q : Exit → Act → World → Prop} {dst : Option Tmp} {t ty : TypeId} {x : Operand} {pos : String} {after : Array Edge} {pv v : Value}
    (hev : a.eval x = pv) (hrun : (Instr.loadAt t pv).run P w = .ok v w) (h : wpList P ops Q rest (a.put dst v) w) :
    wpList P ops Q ({ dst := dst, op := .load t x, type := ty, pos := pos, after := after, guard := none } :: rest) a w :=
  wpList_load_run rfl t x rfl v (by rw [hev]; exact hrun) h
theorem wp_st {P : Program} {w w' : World} {ops : Array Oper} {rest : List Oper} {a : Act} {Q : Exit → Act → World → Prop} {t ty : TypeId} {x y : Operand} {pos : String} {after : Array Edge} {pv v : Value}
    (hev : a.eval x = pv) (hev2 : a.eval y = v) (hrun : (Instr.storeAt t pv v).run P w = .ok () w') (h : wpList P ops Q rest (a.put none undef) w') :
    wpList P ops Q ({ dst := none, op := .store t x y, type := ty, pos := pos, after := after, guard := none } :: rest) a w :=
  wpList_store_run rfl t x y rfl (by rw [hev, hev2]; exact hrun) h

theorem below_on3 {a b c : World} (h : Below a.heap.size a b) (k : Below b.heap.size b c) : Below a.heap.size a c := h.trans (k.mono h.size)

section
variable {w : World} {rb tb n : Nat} {wv : Value} {T : List (List UInt8)} {Q : List Wr} {dn : Bool} {lf : Nat}

theorem Rk.rd (h : Rk w rb tb n wv T Q dn lf) {k : Nat} {s : List UInt8} (hk : T[k]? = some s) : w.rangeAt tb (k * 64) (s.map bv) := fun j v hv => by
  have hs := h.len s (List.mem_of_getElem? hk)
  have hj : j < 64 := by have := (List.getElem?_eq_some_iff.1 hv).1; simpa [hs] using this
  rw [List.getElem?_map, ← flat_at h.len hk j hj, ← List.getElem?_map] at hv
  unfold World.cell?
  rw [h.sh]
  show ((T.flatten.map bv).toArray)[k * 64 + j]? = some v
  rw [List.getElem?_toArray]
  exact hv

/-- What Show gives. -/
def ShowA (T : List (List UInt8)) (Q : List Wr) (k : Nat) (w : World) (e : Ending) (w' : World) : Prop :=
  ∃ s, (shM T Q)[k]? = some s ∧ s.length = 64 ∧ e = .returned (.agg (s.map bv).toArray) ∧ Below w.heap.size w w'

set_option maxHeartbeats 4000000 in
theorem show_any (h : Rk w rb tb n wv T Q dn lf) (k : Nat) (hk : k < n) (hq : Q.length ≤ 1000000) : Calls Try.prog 35 #[.pointer (some ⟨rb, 0, none⟩), .int .i64 (k : Int)] w (ShowA T Q k w) := by
  obtain ⟨vo, vc, rfl⟩ := h.form
  have hb1 : Below w.heap.size w (w.alloc (.cells zc64 64)) := (Below.refl _ _).alloc (Nat.le_refl _) _
  have h1 := h.old hb1
  obtain ⟨c0, c1, c2, c3, -, -, -, -⟩ := four_cells h1.hd
  have hlen := fun W => run_len_slice (P := Try.prog) W 40 3 vo Q.length vc Try.underlying40
  have hst : ∀ s : List UInt8, s.length = 64 → (Instr.storeAt 64 (.pointer (some ⟨w.heap.size, 0, none⟩)) (.agg (s.map bv).toArray)).run Try.prog (w.alloc (.cells zc64 64)) = .ok () (w.alloc (.cells (s.map bv).toArray 64)) := fun s hs =>
    run_storeAt_new (P := Try.prog) w 64 zc64 (s.map bv).toArray (by rw [size_64, List.size_toArray, List.length_map, hs]) (by rw [zero_64c, List.size_toArray, List.length_map, hs]) (all_oneCell_toArray (bv_one s))
  have HST := hid hst
  have H1 := hid h1
  have HN := hid h1.few
  have hwl : IntKind.i64.wrap ((Q.length : Int) - 1) = (Q.length : Int) - 1 := by rw [IntKind.wrap_i64]; omega
  have hfin : ∀ s : List UInt8, (w.alloc (.cells (s.map bv).toArray 64)).heap[w.heap.size]? = some (.cells (s.map bv).toArray 64 (0, 0)) := fun s => heap_alloc_new _ _
  have HF := hid hfin
  have hbf : ∀ s : List UInt8, Below w.heap.size w (w.alloc (.cells (s.map bv).toArray 64)) := fun s => (Below.refl _ _).alloc (Nat.le_refl _) _
  have HBF := hid hbf
  clear h h1 hst hb1 hfin hbf
  go_enter Try.func35, Try.ntmps35
  go_wp2_with (first | (refine Great.wpList_allocTo rfl (some 4) rfl (.pointer (some ⟨w.heap.size, 0, none⟩)) (.cells zc64 64) (by as_aux_lemma => kernel_rfl) ?_))
  go_loop [5] (fun i => ∃ j : Nat, j ≤ Q.length ∧ i = .int .i64 ((j : Int) - 1) ∧ Hid (∀ x ∈ Q.drop j, x.at' ≠ k)) (fun i => (intOf i + 1).toNat)
  case atStart => exact ⟨Q.length, Nat.le_refl _, rfl, by show ∀ x ∈ _, _; simp⟩
  case round =>
    obtain ⟨j, hj, rfl, HJ⟩ := hrel
    by_cases hj0 : j = 0
    · subst hj0
      have ht : T[k]? = some (T[k]'(by have := HN.out.1; omega)) := List.getElem?_eq_getElem _
      generalize T[k]'(by have := HN.out.1; omega) = s at *
      have hs : s.length = 64 := H1.out.len s (List.mem_of_getElem? ht)
      have hld : (Instr.loadAt 64 (.pointer (some ⟨tb, k * 64, none⟩))).run Try.prog (w.alloc (.cells zc64 64)) = .ok (.agg (s.map bv).toArray) (w.alloc (.cells zc64 64)) :=
        run_loadAt_mid _ tb (k * 64) 64 (s.map bv) _ (H1.out.rd ht) Try.underlying64 rfl (by rw [size_64, List.length_map, hs])
      have HLD := hid hld
      have HSS := hid hs
      have HA : Hid (ShowA T Q k w (.returned (.agg (s.map bv).toArray)) (w.alloc (.cells (s.map bv).toArray 64))) := by
        refine ⟨s, ?_, hs, rfl, HBF.out s⟩
        have := sh_skip T [] Q k HJ.out
        rw [List.nil_append] at this
        rw [this]
        exact ht
      have hkn : (k : Int) < (n : Int) := by omega
      clear hld ht hs
      go_wp2_with (first
        | (with_reducible refine wp_ld (x := .tmp 39) (by with_unfolding_all rfl) HLD.out ?_)
        | (with_reducible refine wp_st (x := .tmp 4) (y := .tmp 40) (by with_unfolding_all rfl) (by with_unfolding_all rfl) (HST.out s HSS.out) ?_))
      refine bodyPost_ret (results_cell_row rfl _ _ w.heap.size 64 _ (0, 0) _ rfl (HF.out s) Try.underlying64 rfl (by rw [size_64, List.size_toArray, List.length_map, HSS.out])) rfl ?_
      exact HA.out
    · obtain ⟨i, rfl⟩ : ∃ i, j = i + 1 := ⟨j - 1, by omega⟩
      have hv := List.getElem?_eq_getElem (show i < Q.length by omega)
      generalize Q[i] = y at *
      obtain ⟨b, off, rfl, hc⟩ := H1.out.rows.get (by decide) (k := i) (r := row65 y) (by rw [List.getElem?_map, hv]; rfl)
      have hyo := H1.out.ok y (List.mem_of_getElem? hv)
      have c4 : (w.alloc (.cells zc64 64)).cell? ⟨b, off + i * 65, none⟩ = some (.int .i64 (y.at' : Int)) := hc 0 _ rfl
      have hii : (i : Int) < (Q.length : Int) := by omega
      have hi0 : (0 : Int) ≤ ((i + 1 : Nat) : Int) - 1 := by omega
      have e1 : ((i + 1 : Nat) : Int) - 1 = (i : Int) := by omega
      by_cases hyk : y.at' = k
      · have hyk2 : (y.at' : Int) = (k : Int) := by omega
        have hld : (Instr.loadAt 64 (.pointer (some ⟨b, off + i * 65 + 1, none⟩))).run Try.prog (w.alloc (.cells zc64 64)) = .ok (.agg (y.now.map bv).toArray) (w.alloc (.cells zc64 64)) :=
          run_loadAt_mid _ b (off + i * 65 + 1) 64 (y.now.map bv) _ (fun j' v hv' => by
            have := hc (j' + 1) v (by unfold row65; simpa using hv')
            rw [show off + i * 65 + 1 + j' = off + i * 65 + (j' + 1) from by omega]
            exact this) Try.underlying64 rfl (by rw [size_64, List.length_map, hyo.2])
        have HLD := hid hld
        have HSS := hid hyo.2
        have HA : Hid (ShowA T Q k w (.returned (.agg (y.now.map bv).toArray)) (w.alloc (.cells (y.now.map bv).toArray 64))) := by
          refine ⟨y.now, ?_, hyo.2, rfl, HBF.out y.now⟩
          have h9 := sh_skip T (Q.take (i + 1)) (Q.drop (i + 1)) k HJ.out
          rw [List.take_append_drop] at h9
          rw [h9, take_next hv, sh_one, hyk]
          rw [List.getElem?_set_self (by rw [sh_len]; have := HN.out.1; omega)]
        rw [e1]
        clear hld hv hyo hc hi0 e1 hyk
        go_wp2_with (first
          | (with_reducible refine wp_ld (x := .tmp 32) (by with_unfolding_all rfl) HLD.out ?_)
          | (with_reducible refine wp_st (x := .tmp 4) (y := .tmp 33) (by with_unfolding_all rfl) (by with_unfolding_all rfl) (HST.out y.now HSS.out) ?_))
        refine bodyPost_ret (results_cell_row rfl _ _ w.heap.size 64 _ (0, 0) _ rfl (HF.out y.now) Try.underlying64 rfl (by rw [size_64, List.size_toArray, List.length_map, HSS.out])) rfl ?_
        exact HA.out
      · have hyk2 : ¬ ((y.at' : Int) = (k : Int)) := by omega
        have HJ2 : Hid (∀ x ∈ Q.drop i, x.at' ≠ k) := by
          show ∀ x ∈ _, _
          rw [List.drop_eq_getElem_cons (by omega), (List.getElem?_eq_some_iff.1 hv).2]
          intro x hx
          rcases List.mem_cons.1 hx with rfl | hx
          · exact hyk
          · exact HJ.out x hx
        have hwi : IntKind.i64.wrap ((i : Int) - 1) = (i : Int) - 1 := by rw [IntKind.wrap_i64]; omega
        rw [e1]
        clear hv hyo hc hi0 e1 hyk
        go_wp2_with fail
        go_round
        case rel => exact ⟨i, by omega, rfl, HJ2⟩
        case measure => first | (simp [intOf]; done) | (simp [intOf]; omega)

theorem rd_array {W : World} {b : Nat} {s : List UInt8} {t : TypeId} (h : W.heap[b]? = some (.cells (s.map bv).toArray t (0, 0))) (hs : s.length = 64) : Rd W (.slice (some ⟨b, 0, none⟩) 64 64) s := by
  refine ⟨_, _, by rw [hs], by omega, by decide, (fun e => by cases e), fun a ha j u hu => ?_⟩
  cases ha
  rw [WideShapes.add_plain, Nat.zero_add]
  unfold World.cell?
  rw [h]
  show ((s.map bv).toArray)[j]? = some u
  rw [List.getElem?_toArray]
  exact hu

theorem alloc64 (a : Act) (W : World) (dst : Option Tmp) (ty : TypeId) (pos : String) (after : Array Edge) : (execOp a.eval { dst := dst, op := .alloc 64, type := ty, pos := pos, after := after, guard := none }).run Try.prog W = .ok (.value (.pointer (some ⟨W.heap.size, 0, none⟩))) (W.alloc (.cells zc64 64)) := by kernel_rfl
theorem wp_al64 {w : World} {ops : Array Oper} {rest : List Oper} {a : Act} {Q : Exit → Act → World → Prop} {dst : Option Tmp} {ty : TypeId} {pos : String} {after : Array Edge}
    (h : wpList Try.prog ops Q rest (a.put dst (.pointer (some ⟨w.heap.size, 0, none⟩))) (w.alloc (.cells zc64 64))) :
    wpList Try.prog ops Q ({ dst := dst, op := .alloc 64, type := ty, pos := pos, after := after, guard := none } :: rest) a w :=
  Great.wpList_allocTo rfl dst rfl _ _ (alloc64 a w dst ty pos after) h

/-- What the document's Read gives. -/
def RReadA (T : List (List UInt8)) (Q : List Wr) (k : Nat) (w : World) (e : Ending) (w' : World) : Prop :=
  ∃ s x, (shM T Q)[k]? = some s ∧ s.length = 64 ∧ e = .returned (.tuple #[x, .int .i64 0]) ∧ w'.ownsRow w.heap.size 5 1 x s.length (s.map bv) ∧ Below w.heap.size w w'

set_option maxHeartbeats 4000000 in
theorem rread_any (h : Rk w rb tb n wv T Q false lf) (k : Nat) (hk : k < n) (hq : Q.length ≤ 1000000) : Calls Try.prog 11 #[.pointer (some ⟨rb, 0, none⟩), .int .i64 (k : Int)] w (RReadA T Q k w) := by
  obtain ⟨c0, c1, c2, c3, -, -, -, -⟩ := four_cells h.hd
  have hlen := fun W => run_len_slice (P := Try.prog) W 39 3 (some ⟨tb, 0, none⟩) n n Try.underlying39
  have CS := hid (show_any h k hk hq)
  have hk0 : ¬ ((k : Int) < 0) := by omega
  have hk1 : ¬ ((n : Int) ≤ (k : Int)) := by omega
  have hk2 : (k : Int) < (n : Int) := by omega
  clear h
  go_enter Try.func11, Try.ntmps11
  go_wp2_with (first | (go_at_call 35; refine CS.out.mono ?_))
  rintro e w1 ⟨s, hs1, hs2, rfl, hb1⟩
  have HS1 := hid hs1
  have HS2 := hid hs2
  have HB1 := hid hb1
  have hst : (Instr.storeAt 64 (.pointer (some ⟨w1.heap.size, 0, none⟩)) (.agg (s.map bv).toArray)).run Try.prog (w1.alloc (.cells zc64 64)) = .ok () (w1.alloc (.cells (s.map bv).toArray 64)) :=
    run_storeAt_new (P := Try.prog) w1 64 zc64 (s.map bv).toArray (by rw [size_64, List.size_toArray, List.length_map, hs2]) (by rw [zero_64c, List.size_toArray, List.length_map, hs2]) (all_oneCell_toArray (bv_one s))
  have HST := hid hst
  have hr := rd_array (s := s) (heap_alloc_new w1 (.cells (s.map bv).toArray 64)) hs2
  have HR := hid hr
  have HN : Hid (0 + s.length ≤ 140737488355328) := by show _ ≤ _; omega
  clear hs1 hs2 hb1 hst hr CS
  go_wp2_with (first
    | (with_reducible refine wp_al64 ?_)
    | (with_reducible refine wp_st (x := .tmp 6) (y := .tmp 24) (by with_unfolding_all rfl) (by with_unfolding_all rfl) HST.out ?_)
    | (at_builtin; refine wp_app rfl _ _ 30 rfl w1.heap.size 5 Try.underlying30 (by kernel_rfl) _ _ _ rfl (World.ownsRow_nil _ _ _ _) _ s rfl HR.out HN.out ?c2 ?_))
  case c2 => simp
  intro v' w3 ho hg
  have HO := hid ho
  have HB3 : Hid (Below w1.heap.size w1 w3) := ((Below.refl _ _).alloc (Nat.le_refl _) _).grown hg (by simp) (fun k hk => by cases hk)
  clear ho hg
  go_wp2_with fail
  go_ret2
  refine ⟨s, v', HS1.out, HS2.out, rfl, ?_, below_on3 HB1.out HB3.out⟩
  have := HO.out
  try rw [Nat.zero_add, List.nil_append] at this
  exact ownsRow_base this HB1.out.size

theorem rread_off (h : Rk w rb tb n wv T Q true lf) (z : Int) : Calls Try.prog 11 #[.pointer (some ⟨rb, 0, none⟩), .int .i64 z] w (fun e w' => e = .returned (.tuple #[.slice none 0 0, .int .i64 3]) ∧ w' = w) := by
  obtain ⟨c0, c1, c2, c3, -, -, -, -⟩ := four_cells h.hd
  clear h
  go_enter Try.func11, Try.ntmps11
  go_wp2_with fail
  go_ret2
  exact ⟨rfl, rfl⟩
theorem rread_none (h : Rk w rb tb n wv T Q false lf) (z : Int) (hz : ¬ (0 ≤ z ∧ z < (n : Int))) : Calls Try.prog 11 #[.pointer (some ⟨rb, 0, none⟩), .int .i64 z] w (fun e w' => e = .returned (.tuple #[.slice none 0 0, .int .i64 1]) ∧ w' = w) := by
  obtain ⟨c0, c1, c2, c3, -, -, -, -⟩ := four_cells h.hd
  have hlen := fun W => run_len_slice (P := Try.prog) W 39 3 (some ⟨tb, 0, none⟩) n n Try.underlying39
  clear h
  by_cases h0 : z < 0
  · clear hz
    go_enter Try.func11, Try.ntmps11
    go_wp2_with fail
    go_ret2
    exact ⟨rfl, rfl⟩
  · have h1 : (n : Int) ≤ z := by omega
    clear hz
    go_enter Try.func11, Try.ntmps11
    go_wp2_with fail
    go_ret2
    exact ⟨rfl, rfl⟩
end
end Go.Proofs.Ytihholgdpmbkeaa
