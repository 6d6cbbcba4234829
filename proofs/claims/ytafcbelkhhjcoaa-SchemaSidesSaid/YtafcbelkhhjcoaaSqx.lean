/-
  LAYER 12, THE CODE's: moved; leads.
-/
import Derived.Test.YtafcbelkhhjcoaaSqw
set_option linter.unusedVariables false
set_option linter.unusedSimpArgs false
set_option maxRecDepth 100000
namespace Go.Proofs.Ytafcbelkhhjcoaa
open Go.RowKit Go.Deep

theorem put_any {w : World} {b : Nat} {cur : Array Value} {t : TypeId} (h : w.heap[b]? = some (.cells cur t (0, 0))) (i : Nat) (v : Value) : (w.setCell ⟨b, i, none⟩ v).heap[b]? = some (.cells (cur.setIfInBounds i v) t (0, 0)) := by
  have hlt := lt_of_block h
  have h' : w.heap[b] = .cells cur t (0, 0) := by simpa [Array.getElem?_eq_getElem hlt] using h
  show (w.heap.modify b _)[b]? = _
  rw [Array.getElem?_eq_getElem (by simpa using hlt), Array.getElem_modify_self, h']
  rfl
theorem own_put {w : World} {base : Nat} {e : TypeId} {size n c g k : Nat} {xs : List Value} (h : w.ownsRow base e size (.slice (some ⟨g, 0, none⟩) n c) n xs) (x : Value) :
    (w.setCell ⟨g, k, none⟩ x).ownsRow base e size (.slice (some ⟨g, 0, none⟩) n c) n (xs.set k x) := by
  obtain ⟨h1, h2⟩ := h
  refine ⟨by rw [List.length_set]; exact h1, ?_⟩
  rcases h2 with ⟨h2, _⟩ | ⟨g', cap, cur, hv, hb, hg, hc, hm2, hs, ht⟩
  · cases h2
  · simp only [Value.slice.injEq, Option.some.injEq, Addr.mk.injEq, and_true, true_and] at hv
    obtain ⟨rfl, rfl⟩ := hv
    refine .inr ⟨g, c, _, rfl, hb, put_any hg k x, hc, hm2, by rw [Array.size_setIfInBounds]; exact hs, ?_⟩
    rw [Array.toList_setIfInBounds, ← ht, List.take_set]
theorem flat_set {size : Nat} (v : Value) : ∀ (M : List (List Value)) (i : Nat) (r : List Value) (j : Nat), Wide size M → M[i]? = some r → j < size → M.flatten.set (i * size + j) v = (M.set i (r.set j v)).flatten
  | [], i, r, j, _, h, _ => by cases h
  | x :: M, 0, r, j, hw, h, hj => by
    simp only [List.getElem?_cons_zero, Option.some.injEq] at h
    subst h
    have hx := (hw x (by simp)).1
    simp only [List.flatten_cons, Nat.zero_mul, Nat.zero_add, List.set_cons_zero]
    rw [List.set_append, if_pos (by omega)]
  | x :: M, i + 1, r, j, hw, h, hj => by
    simp only [List.getElem?_cons_succ] at h
    have hx := (hw x (by simp)).1
    have := flat_set v M i r j (hw.sub (fun r hr => by simp [hr])) h hj
    simp only [List.flatten_cons, List.set_cons_succ]
    rw [List.set_append, if_neg (by rw [hx, Nat.succ_mul]; omega), hx, Nat.succ_mul, show i * size + size + j - size = i * size + j by omega, this]
theorem wide_set {size : Nat} {M : List (List Value)} (h : Wide size M) (i : Nat) (r : List Value) (hr : r.length = size ∧ ∀ u ∈ r, u.oneCell' = true) : Wide size (M.set i r) := fun q hq => by
  rcases List.mem_or_eq_of_mem_set hq with h1 | h1
  · exact h q h1
  · subst h1; exact hr

/-- What moved makes. -/
def movedM (C : Cat) (i : Nat) (st : Int) (bad : Bool) (x : Idx) : Cat :=
  if st = 0 then { C with ver := C.ver + 1, idxs := C.idxs.take i ++ C.idxs.drop (i + 1) } else { C with ver := C.ver + 1, idxs := C.idxs.set i { x with state := st, bad := x.bad || bad } }

theorem Keep.cell' {X : Nat → Prop} {w w' : World} (h : Keep X w w') {b o : Nat} {v : Value} (hx : ¬ X b) (hc : w.cell? ⟨b, o, none⟩ = some v) : w'.cell? ⟨b, o, none⟩ = some v := by
  rw [← hc]; unfold World.cell?; rw [h.block b (World.block_lt_of_cell? w _ hc) hx]

/-- The end of moved, where no index goes. -/
theorem fin_moved {base g kc i : Nat} {w w3 w5 s4 : World} {C : Cat} {sa : Option Addr} {sc : Nat} {x : Idx} {M : List (List Value)} {a2 : Option Addr} {e2 : Nat} {st : Int} {bad b9 : Bool} {M9 : List (List Value)}
    (hT : OwnL (TabN fun k => NewQ base w (.slice sa C.tabs.length sc) k ∧ (Value.slice (some ⟨g, 0, none⟩) C.idxs.length kc).ownBlock ≠ some k) 4 33 base w (.slice sa C.tabs.length sc) C.tabs)
    (hAP : ∀ k, (Value.slice sa C.tabs.length sc).ownBlock = some k → (Value.slice (some ⟨g, 0, none⟩) C.idxs.length kc).ownBlock ≠ some k) (hb : base ≤ w.heap.size) (hM1 : M.length = C.idxs.length) (hM3 : Wide 7 M)
    (hM4 : ∀ (i : Nat) r a, M[i]? = some r → C.idxs[i]? = some a → IdxN (fun k => NewQ base w (.slice (some ⟨g, 0, none⟩) C.idxs.length kc) k ∧ (Value.slice sa C.tabs.length sc).ownBlock ≠ some k) w r a)
    (hO : w5.ownsRow base 37 7 (.slice (some ⟨g, 0, none⟩) C.idxs.length kc) C.idxs.length M9.flatten) (hM9 : M9 = M.set i [.int .i64 x.id, .int .i64 x.table, .string ⟨x.name.toArray⟩, .slice a2 x.cols.length e2, .bool x.uniq, .int .i64 st, .bool b9])
    (k1 : Keep (fun k => k = w.heap.size) w w3) (k2 : Keep (fun k => k = g) w3 w5) (k3 : Keep (fun k => k = w.heap.size + 1) w5 s4) (hbg : base ≤ g) (hgl : g < w.heap.size) (hil : i < C.idxs.length) (hi : C.idxs[i]? = some x)
    (hrx : IdxN (fun k => NewQ base w (.slice (some ⟨g, 0, none⟩) C.idxs.length kc) k ∧ (Value.slice sa C.tabs.length sc).ownBlock ≠ some k) w [.int .i64 x.id, .int .i64 x.table, .string ⟨x.name.toArray⟩, .slice a2 x.cols.length e2, .bool x.uniq, .int .i64 x.state, .bool x.bad] x) (h0 : ¬ st = 0) (hb9 : (x.bad || bad) = b9) :
    ∃ vs : List Value, Ending.returned (.tuple #[.agg #[.int .i64 (C.ver + 1), .int .i64 C.nxt, .slice sa C.tabs.length sc, .slice (some ⟨g, 0, none⟩) C.idxs.length kc], .int .i64 0]) = .returned (.tuple #[.agg vs.toArray, .int .i64 0]) ∧ Below base w s4 ∧ CatN (fun k => base ≤ k ∧ k < s4.heap.size) s4 vs (movedM C i st bad x) := by
  have hkA : Keep (fun k => k = w.heap.size ∨ k = g ∨ k = w.heap.size + 1) w s4 := (k1.mono (fun k _ e => Or.inl e)).trans ((k2.mono (fun k _ e => Or.inr (Or.inl e))).trans (k3.mono (fun k _ e => Or.inr (Or.inr e))))
  have hsA := hkA.size
  have hl1 := hT.lt
  have hwr : ([.int .i64 x.id, .int .i64 x.table, .string ⟨x.name.toArray⟩, .slice a2 x.cols.length e2, .bool x.uniq, .int .i64 st, .bool b9] : List Value).length = 7 ∧ ∀ u ∈ ([.int .i64 x.id, .int .i64 x.table, .string ⟨x.name.toArray⟩, .slice a2 x.cols.length e2, .bool x.uniq, .int .i64 st, .bool b9] : List Value), u.oneCell' = true := ⟨rfl, fun u hu => by simp only [List.mem_cons, List.not_mem_nil, or_false] at hu; rcases hu with rfl | rfl | rfl | rfl | rfl | rfl | rfl <;> rfl⟩
  have hw9 : Wide 7 M9 := by rw [hM9]; exact wide_set hM3 i _ hwr
  have hlen9 : M9.length = C.idxs.length := by rw [hM9, List.length_set, hM1]
  have hmv : movedM C i st bad x = { C with ver := C.ver + 1, idxs := C.idxs.set i { x with state := st, bad := b9 } } := by unfold movedM; rw [if_neg h0, hb9]
  have hown := own_keep hO k3 (fun k e e9 => by have := hO.lt k e; have e8 : g = k := Option.some.inj e; have e7 : k = w.heap.size + 1 := e9; omega)
  have hR9 : Rws 7 s4 (.slice (some ⟨g, 0, none⟩) C.idxs.length kc) M9 := Rws.own (e := 37) (base := base) (x := .slice (some ⟨g, 0, none⟩) C.idxs.length kc) (by rw [hlen9]; exact hown) hw9
  have up : ∀ r a, IdxN (fun k => NewQ base w (.slice (some ⟨g, 0, none⟩) C.idxs.length kc) k ∧ (Value.slice sa C.tabs.length sc).ownBlock ≠ some k) w r a → IdxN (fun k => base ≤ k ∧ k < s4.heap.size) s4 r a := fun r a h => (h.keep hkA (fun k e e9 => by
    rcases e9 with e9 | e9 | e9
    · have := e.1.2.1; omega
    · exact e.1.2.2 (by rw [e9]; rfl)
    · have := e.1.2.1; omega)).mono (fun k e => ⟨e.1.1, by have := e.1.2.1; omega⟩)
  rw [hmv]
  refine ⟨_, rfl, hkA.below hb (fun k e => by rcases e with e | e | e <;> omega), .slice sa C.tabs.length sc, .slice (some ⟨g, 0, none⟩) C.idxs.length kc, rfl, ?_, ?_, rfl, rfl⟩
  · have hx : ∀ k, (Value.slice sa C.tabs.length sc).ownBlock = some k → ¬ (k = w.heap.size ∨ k = g ∨ k = w.heap.size + 1) := fun k e e9 => by
      have := hl1 k e
      rcases e9 with e9 | e9 | e9
      · omega
      · exact hAP k e (by rw [e9]; rfl)
      · omega
    exact ((hT.mono (R' := TabN fun k => base ≤ k ∧ k < s4.heap.size) hkA hx (fun r a h => (h.keep hkA (fun k e e9 => by
      rcases e9 with e9 | e9 | e9
      · have := e.1.2.1; omega
      · exact e.2 (by rw [e9]; rfl)
      · have := e.1.2.1; omega)).mono (fun k e => ⟨e.1.1, by have := e.1.2.1; omega⟩))).lst _ (fun k e => ⟨(hl1 k e).1, by have := (hl1 k e).2; omega⟩))
  · refine ⟨M9, by rw [hlen9]; show _ = (C.idxs.set i _).length; rw [List.length_set], hR9, fun j r9 a9 hr9 ha9 => ?_, fun _ k e => ?_⟩
    case refine_2 =>
      have e8 : g = k := Option.some.inj e
      subst e8; exact ⟨hbg, by omega⟩
    have ha8 : (C.idxs.set i { x with state := st, bad := b9 })[j]? = some a9 := ha9
    rw [hM9, List.getElem?_set] at hr9
    rw [List.getElem?_set] at ha8
    by_cases hj : i = j
    · subst hj
      rw [if_pos rfl, if_pos (by rw [hM1]; exact hil)] at hr9
      rw [if_pos rfl, if_pos hil] at ha8
      cases hr9; cases ha8
      obtain ⟨y9, e9, hz9, ho9⟩ := up _ _ hrx
      simp only [List.cons.injEq, and_true, true_and] at e9
      obtain ⟨rfl⟩ := e9
      exact ⟨_, rfl, hz9, rfl⟩
    · rw [if_neg hj] at hr9 ha8
      exact up _ _ (hM4 j r9 a9 hr9 ha8)

set_option maxHeartbeats 16000000 in
theorem moved_any {base : Nat} {w : World} {cs : List Value} {C : Cat} (h : CatO base w cs C) (hb : base ≤ w.heap.size) (hv : -9223372036854775808 ≤ C.ver ∧ C.ver < 9223372036854775807) (i : Nat) (x : Idx) (hi : C.idxs[i]? = some x) (hl : C.idxs.length ≤ 100) (st : Int) (bad : Bool) :
    Calls Try.prog 109 #[.agg cs.toArray, .int .i64 (i : Int), .int .i64 st, .bool bad] w (fun e w' => ∃ vs : List Value, e = .returned (.tuple #[.agg vs.toArray, .int .i64 0]) ∧ Below base w w' ∧ CatN (fun k => base ≤ k ∧ k < w'.heap.size) w' vs (movedM C i st bad x)) := by
  obtain ⟨vx, vy, rfl, ho1, ho2, ho3⟩ := h
  obtain ⟨sa, sc, rfl⟩ := own_form ho1
  have hil : i < C.idxs.length := (List.getElem?_eq_some_iff.1 hi).1
  obtain ⟨q, hq⟩ : ∃ q, C.idxs.length = q + 1 := ⟨C.idxs.length - 1, by omega⟩
  obtain ⟨M, m1, m2, m3, m4⟩ := ho2
  obtain ⟨g, kc, cur, rfl, hbg, hg, hgc⟩ : ∃ g kc cur, vy = .slice (some ⟨g, 0, none⟩) C.idxs.length kc ∧ base ≤ g ∧ w.heap[g]? = some (.cells cur 37 (0, 0)) ∧ True := by
    rcases m2.2 with ⟨-, h0⟩ | ⟨g, cap, cur, hv, h1, h2, -⟩
    · omega
    · exact ⟨g, cap, cur, hv, h1, h2, trivial⟩
  obtain ⟨r, hr⟩ : ∃ r, M[i]? = some r := ⟨_, List.getElem?_eq_getElem (by omega)⟩
  have hrx := m4 i r x hr hi
  obtain ⟨a2, e2, hrr⟩ := idx_form hrx
  subst hrr
  have HT := hid ho1
  have HO := hid m2
  have HM3 := hid m3
  have HM1 := hid m1
  have HM4 := hid m4
  have HR := hid hr
  have HI := hid hi
  have HRX := hid hrx
  have HG := hid hg
  have HAP := hid ho3
  have hgl : g < w.heap.size := lt_of_block hg
  have HBG := hid hbg
  have HQ := hid hq
  clear ho1 m1 m2 m3 m4 hr hrx hg ho3 hq
  have hilz : (i : Int) < (C.idxs.length : Int) := by omega
  have hRcell : ∀ (j : Nat) u, ([.int .i64 x.id, .int .i64 x.table, .string ⟨x.name.toArray⟩, .slice a2 x.cols.length e2, .bool x.uniq, .int .i64 x.state, .bool x.bad] : List Value)[j]? = some u → w.cell? ⟨g, i * 7 + j, none⟩ = some u := fun j u hu => by
    have h1 : Rws 7 w (.slice (some ⟨g, 0, none⟩) C.idxs.length kc) M := Rws.own (e := 37) (base := base) (x := .slice (some ⟨g, 0, none⟩) C.idxs.length kc) (by rw [HM1.out]; exact HO.out) HM3.out
    obtain ⟨b9, o9, h2, h3⟩ := h1.get (by decide) HR.out
    simp only [Option.some.injEq, Addr.mk.injEq, and_true] at h2
    obtain ⟨rfl, rfl⟩ := h2
    have := h3 j u hu
    rwa [Nat.zero_add] at this
  have HRC := hid hRcell
  clear hRcell
  go_enter Try.func109, Try.ntmps109
  go_upto_region 1 with fail
  have hb1 := (Below.refl w.heap.size w).alloc (Nat.le_refl _) (.cells #[.int .i64 C.ver, .int .i64 C.nxt, .slice sa C.tabs.length sc, .slice (some ⟨g, 0, none⟩) C.idxs.length kc] 25)
  have hz1 := heap_alloc_new w (.cells #[.int .i64 C.ver, .int .i64 C.nxt, .slice sa C.tabs.length sc, .slice (some ⟨g, 0, none⟩) C.idxs.length kc] 25)
  have hsz : (w.alloc (.cells #[.int .i64 C.ver, .int .i64 C.nxt, .slice sa C.tabs.length sc, .slice (some ⟨g, 0, none⟩) C.idxs.length kc] 25)).heap.size = w.heap.size + 1 := by simp
  generalize w.alloc (.cells #[.int .i64 C.ver, .int .i64 C.nxt, .slice sa C.tabs.length sc, .slice (some ⟨g, 0, none⟩) C.idxs.length kc] 25) = w1 at *
  have hz2 := heap_alloc_new w1 (.cells #[.int .i64 0, .int .i64 0, .slice none 0 0, .slice none 0 0] 25)
  have hb2 := hb1.alloc hb1.size (.cells #[.int .i64 0, .int .i64 0, .slice none 0 0, .slice none 0 0] 25)
  have hzk := (((Below.refl _ w1).alloc (Nat.le_refl _) (.cells #[.int .i64 0, .int .i64 0, .slice none 0 0, .slice none 0 0] 25)).block _ (lt_of_block hz1)).trans hz1
  have hsz2 : (w1.alloc (.cells #[.int .i64 0, .int .i64 0, .slice none 0 0, .slice none 0 0] 25)).heap.size = w.heap.size + 2 := by simp [hsz]
  rw [hsz] at hz2
  generalize w1.alloc (.cells #[.int .i64 0, .int .i64 0, .slice none 0 0, .slice none 0 0] 25) = w2 at *
  have HB2 := hid hb2
  have HZ2 := hid hzk
  have HR2 := hid hz2
  have HSZ := hid hsz2
  clear hb1 hz1 hb2 hz2 hzk hsz hsz2
  have z0 := cell_in HZ2.out 0 _ rfl
  have z0f := free_in HZ2.out 0
  have hvne : (C.ver == 9223372036854775807) = false := by rw [beq_eq_false_iff_ne]; omega
  have hvw : wrap64 (C.ver + 1) = C.ver + 1 := by unfold wrap64; omega
  go_upto_region 4 with fail
  have HZ3 := hid (put_in HZ2.out 0 (.int .i64 (C.ver + 1)))
  have HK3 := hid (keepS1 w2 w.heap.size 0 (.int .i64 (C.ver + 1)))
  generalize w2.setCell ⟨w.heap.size, 0, none⟩ (.int .i64 (C.ver + 1)) = w3 at *
  clear z0 z0f hvne hvw
  have HR3 := hid ((HK3.out.block _ (lt_of_block HR2.out) (fun e => by have e9 : w.heap.size + 1 = w.heap.size := e; omega)).trans HR2.out)
  have HKw3 : Hid (Keep (fun k => k = w.heap.size) w w3) := hid ((Keep.of_below HB2.out).trans HK3.out)
  have HO3 := hid (own_keep HO.out HKw3.out (fun k e e9 => by have e8 : k = w.heap.size := e9; have := HO.out.lt k e; omega))
  have z3 := cell_in HZ3.out 3 _ rfl
  have HS3 : Hid (w.heap.size + 2 ≤ w3.heap.size) := hid (by have := HSZ.out; have := HK3.out.size; omega)
  by_cases h0 : st = 0
  · subst h0
    have HMV : Hid (movedM C i 0 bad x = { C with ver := C.ver + 1, idxs := C.idxs.take i ++ C.idxs.drop (i + 1) }) := hid (by unfold movedM; rw [if_pos rfl])
    have hiw : wrap64 ((i : Int) + 1) = (i : Int) + 1 := by unfold wrap64; omega
    have hq := HQ.out
    have CD := hid (delete_any w3 base g q kc i M (by rw [HM1.out, hq]) HM3.out (by rw [← hq]; exact HO3.out) (by omega) (by omega))
    rw [← hq] at CD
    clear hq
    go_upto_region 6 with (first | (go_at_call 192; refine CD.out.mono ?_; rintro en w4 ⟨rfl, ho4, hk4⟩; have HO4 := hid ho4; have HK4 := hid hk4; clear ho4 hk4 z3; have HZ4 := hid ((HK4.out.block _ (lt_of_block HZ3.out) (fun e => by have e9 : w.heap.size = g := e; omega)).trans HZ3.out); have HR4 := hid ((HK4.out.block _ (lt_of_block HR3.out) (fun e => by have e9 : w.heap.size + 1 = g := e; omega)).trans HR3.out); have z3 := cell_in HZ4.out 3 _ rfl; have z3f := free_in HZ4.out 3))
    have HZ5 := hid (put_in HZ4.out 3 (.slice (some ⟨g, 0, none⟩) q kc))
    have HK5 := hid (keepS1 w4 w.heap.size 3 (.slice (some ⟨g, 0, none⟩) q kc))
    generalize w4.setCell ⟨w.heap.size, 3, none⟩ (.slice (some ⟨g, 0, none⟩) q kc) = w5 at *
    clear z3 z3f
    have HR5 := hid ((HK5.out.block _ (lt_of_block HR4.out) (fun e => by have e9 : w.heap.size + 1 = w.heap.size := e; omega)).trans HR4.out)
    have z0 := cell_in HZ5.out 0 _ rfl
    have r0 := cell_in HR5.out 0 _ rfl
    have r0f := free_in HR5.out 0
    have z1 := cell_in HZ5.out 1 _ rfl
    have r1 := cell_in HR5.out 1 _ rfl
    have r1f := free_in HR5.out 1
    have z2 := cell_in HZ5.out 2 _ rfl
    have r2 := cell_in HR5.out 2 _ rfl
    have r2f := free_in HR5.out 2
    have z3 := cell_in HZ5.out 3 _ rfl
    have r3 := cell_in HR5.out 3 _ rfl
    have r3f := free_in HR5.out 3
    go_wp2_with fail
    obtain ⟨p1, p2⟩ := put4 HR5.out (.int .i64 (C.ver + 1)) (.int .i64 C.nxt) (.slice sa C.tabs.length sc) (.slice (some ⟨g, 0, none⟩) q kc)
    generalize (((w5.setCell ⟨w.heap.size + 1, 0, none⟩ (.int .i64 (C.ver + 1))).setCell ⟨w.heap.size + 1, 1, none⟩ (.int .i64 C.nxt)).setCell ⟨w.heap.size + 1, 2, none⟩ (.slice sa C.tabs.length sc)).setCell ⟨w.heap.size + 1, 3, none⟩ (.slice (some ⟨g, 0, none⟩) q kc) = s4 at *
    refine bodyPost_ret (results_cell2 rfl _ _ (w.heap.size + 1) 25 _ (0, 0) _ rfl p1 Try.underlying25 rfl (by kernel_rfl)) rfl ?_
    rw [HMV.out]
    have hkA : Keep (fun k => k = w.heap.size ∨ k = g ∨ k = w.heap.size + 1) w s4 := (HKw3.out.mono (fun k _ e => Or.inl e)).trans ((HK4.out.mono (fun k _ e => Or.inr (Or.inl e))).trans ((HK5.out.mono (fun k _ e => Or.inl e)).trans (p2.mono (fun k _ e => Or.inr (Or.inr e)))))
    have hkB : Keep (fun k => k = w.heap.size ∨ k = w.heap.size + 1) w4 s4 := (HK5.out.mono (fun k _ e => Or.inl e)).trans (p2.mono (fun k _ e => Or.inr e))
    have hl1 := HT.out.lt
    have hsA := hkA.size
    have hgn := HBG.out
    have hown := own_keep HO4.out hkB (fun k e e9 => by have := HO4.out.lt k e; have e8 : k = g := by simpa [Value.ownBlock] using e.symm
                                                        rcases e9 with e9 | e9 <;> omega)
    have hM9 : Wide 7 (M.take i ++ M.drop (i + 1)) := Wide.app (HM3.out.sub (fun r hr => List.mem_of_mem_take hr)) (HM3.out.sub (fun r hr => List.mem_of_mem_drop hr))
    have hq := HQ.out
    have hlen9 : (M.take i ++ M.drop (i + 1)).length = q := by rw [List.length_append, List.length_take, List.length_drop, HM1.out]; omega
    have hlen8 : (C.idxs.take i ++ C.idxs.drop (i + 1)).length = q := by rw [List.length_append, List.length_take, List.length_drop]; omega
    have hR9 : Rws 7 s4 (.slice (some ⟨g, 0, none⟩) q kc) (M.take i ++ M.drop (i + 1)) := Rws.own (e := 37) (base := base) (by rw [hlen9]; exact hown) hM9
    have hap : ∀ k, sa.map (·.block) = some k → k ≠ g := fun k e e9 => by
      refine HAP.out k ?_ (by rw [e9]; rfl)
      cases sa with
      | none => cases e
      | some a9 => simpa [Value.ownBlock] using e
    refine ⟨_, rfl, hkA.below hb (fun k e => by rcases e with e | e | e <;> omega), .slice sa C.tabs.length sc, .slice (some ⟨g, 0, none⟩) q kc, rfl, ?_, ?_, rfl, rfl⟩
    · have hx : ∀ k, (Value.slice sa C.tabs.length sc).ownBlock = some k → ¬ (k = w.heap.size ∨ k = g ∨ k = w.heap.size + 1) := fun k e e9 => by
        have := hl1 k e
        rcases e9 with e9 | e9 | e9
        · omega
        · exact HAP.out k e (by rw [e9]; rfl)
        · omega
      exact ((HT.out.mono (R' := TabN fun k => base ≤ k ∧ k < s4.heap.size) hkA hx (fun r a h => (h.keep hkA (fun k e e9 => by
        rcases e9 with e9 | e9 | e9
        · have := e.1.2.1; omega
        · exact e.2 (by rw [e9]; rfl)
        · have := e.1.2.1; omega)).mono (fun k e => ⟨e.1.1, by have := e.1.2.1; omega⟩))).lst _ (fun k e => ⟨(hl1 k e).1, by have := (hl1 k e).2; omega⟩))
    · refine ⟨M.take i ++ M.drop (i + 1), by rw [hlen9, hlen8], hR9, fun j r9 a9 hr9 ha9 => ?_, fun _ k e => ?_⟩
      case refine_2 =>
        have e8 : g = k := Option.some.inj e
        subst e8; exact ⟨hgn, by omega⟩
      obtain ⟨j', hj1, hj2⟩ : ∃ j', M[j']? = some r9 ∧ C.idxs[j']? = some a9 := by
        have hti : (M.take i).length = i := by rw [List.length_take, HM1.out]; omega
        have hti2 : (C.idxs.take i).length = i := by rw [List.length_take]; omega
        by_cases hj : j < i
        · rw [List.getElem?_append_left (by omega), getElem?_taken hj] at hr9
          rw [List.getElem?_append_left (by omega), getElem?_taken hj] at ha9
          exact ⟨j, hr9, ha9⟩
        · rw [List.getElem?_append_right (by omega), hti, List.getElem?_drop] at hr9
          rw [List.getElem?_append_right (by omega), hti2, List.getElem?_drop] at ha9
          exact ⟨_, hr9, ha9⟩
      exact ((HM4.out j' r9 a9 hj1 hj2).keep hkA (fun k e e9 => by
        rcases e9 with e9 | e9 | e9
        · have := e.1.2.1; omega
        · exact e.1.2.2 (by rw [e9]; rfl)
        · have := e.1.2.1; omega)).mono (fun k e => ⟨e.1.1, by have := e.1.2.1; omega⟩)
  · have hst : (st == 0) = false := by simp [h0]
    have HG3 := hid ((HKw3.out.block g hgl (by omega)).trans HG.out)
    have FL5 : Hid (M.flatten.set (i * 7 + 5) (.int .i64 st) = (M.set i [.int .i64 x.id, .int .i64 x.table, .string ⟨x.name.toArray⟩, .slice a2 x.cols.length e2, .bool x.uniq, .int .i64 st, .bool x.bad]).flatten) := hid (flat_set (.int .i64 st) M i _ 5 HM3.out HR.out (by decide))
    have FL6 : Hid (∀ v, (M.set i [.int .i64 x.id, .int .i64 x.table, .string ⟨x.name.toArray⟩, .slice a2 x.cols.length e2, .bool x.uniq, .int .i64 st, .bool x.bad]).flatten.set (i * 7 + 6) v = (M.set i [.int .i64 x.id, .int .i64 x.table, .string ⟨x.name.toArray⟩, .slice a2 x.cols.length e2, .bool x.uniq, .int .i64 st, v]).flatten) := hid (fun v => by
      have := flat_set v (M.set i [.int .i64 x.id, .int .i64 x.table, .string ⟨x.name.toArray⟩, .slice a2 x.cols.length e2, .bool x.uniq, .int .i64 st, .bool x.bad]) i [.int .i64 x.id, .int .i64 x.table, .string ⟨x.name.toArray⟩, .slice a2 x.cols.length e2, .bool x.uniq, .int .i64 st, .bool x.bad] 6 (wide_set HM3.out i _ ⟨rfl, fun u hu => by simp only [List.mem_cons, List.not_mem_nil, or_false] at hu; rcases hu with rfl | rfl | rfl | rfl | rfl | rfl | rfl <;> rfl⟩) (by rw [List.getElem?_set_self (by rw [HM1.out]; exact hil)]) (by decide)
      rw [this, List.set_set]; rfl)
    obtain ⟨bx, hbx⟩ : ∃ b, b = x.bad := ⟨_, rfl⟩
    have HBX := hid hbx
    have g5 := (HKw3.out.cell' (by omega) (HRC.out 5 _ rfl))
    have g6 := (HKw3.out.cell' (by omega) (HRC.out 6 _ rfl))
    rw [← hbx] at g6
    clear hbx
    have g5f := free_in HG3.out (i * 7 + 5)
    have hi0 : (0 : Int) ≤ (i : Int) := by omega
    go_upto_region 9 with fail
    have HG4 := hid (put_any HG3.out (i * 7 + 5) (.int .i64 st))
    have HO4 := hid (own_put (k := i * 7 + 5) HO3.out (.int .i64 st))
    have HK4 := hid (keepS1 w3 g (i * 7 + 5) (.int .i64 st))
    have g6' : (w3.setCell ⟨g, i * 7 + 5, none⟩ (.int .i64 st)).cell? ⟨g, i * 7 + 6, none⟩ = some (.bool bx) := (World.cell?_setCell_other w3 _ _ _ (fun e => by simp only [Addr.mk.injEq] at e; omega)).trans g6
    generalize w3.setCell ⟨g, i * 7 + 5, none⟩ (.int .i64 st) = w4 at *
    clear g5 g5f g6
    have g6 := g6'
    have g6f := free_in HG4.out (i * 7 + 6)
    clear g6'
    cases bx with
    | true =>
      go_upto_region 10 with fail
      have HG5 := hid (put_any HG4.out (i * 7 + 6) (.bool true))
      have hof := own_put (k := i * 7 + 6) HO4.out (.bool true)
      rw [FL5.out, FL6.out (.bool true)] at hof
      have HOF := hid hof
      have HK5 := hid (HK4.out.trans (keepS1 w4 g (i * 7 + 6) (.bool true)))
      generalize w4.setCell ⟨g, i * 7 + 6, none⟩ (.bool true) = w5 at *
      have HZ5 := hid ((HK5.out.block _ (lt_of_block HZ3.out) (fun e => by have e9 : w.heap.size = g := e; omega)).trans HZ3.out)
      have HR5 := hid ((HK5.out.block _ (lt_of_block HR3.out) (fun e => by have e9 : w.heap.size + 1 = g := e; omega)).trans HR3.out)
      clear z3 g6 g6f hof
      have z0 := cell_in HZ5.out 0 _ rfl
      have r0 := cell_in HR5.out 0 _ rfl
      have r0f := free_in HR5.out 0
      have z1 := cell_in HZ5.out 1 _ rfl
      have r1 := cell_in HR5.out 1 _ rfl
      have r1f := free_in HR5.out 1
      have z2 := cell_in HZ5.out 2 _ rfl
      have r2 := cell_in HR5.out 2 _ rfl
      have r2f := free_in HR5.out 2
      have z3 := cell_in HZ5.out 3 _ rfl
      have r3 := cell_in HR5.out 3 _ rfl
      have r3f := free_in HR5.out 3
      go_wp2_with fail
      obtain ⟨p1, p2⟩ := put4 HR5.out (.int .i64 (C.ver + 1)) (.int .i64 C.nxt) (.slice sa C.tabs.length sc) (.slice (some ⟨g, 0, none⟩) C.idxs.length kc)
      generalize (((w5.setCell ⟨w.heap.size + 1, 0, none⟩ (.int .i64 (C.ver + 1))).setCell ⟨w.heap.size + 1, 1, none⟩ (.int .i64 C.nxt)).setCell ⟨w.heap.size + 1, 2, none⟩ (.slice sa C.tabs.length sc)).setCell ⟨w.heap.size + 1, 3, none⟩ (.slice (some ⟨g, 0, none⟩) C.idxs.length kc) = s4 at *
      refine bodyPost_ret (results_cell2 rfl _ _ (w.heap.size + 1) 25 _ (0, 0) _ rfl p1 Try.underlying25 rfl (by kernel_rfl)) rfl ?_
      exact fin_moved HT.out HAP.out hb HM1.out HM3.out HM4.out HOF.out rfl HKw3.out HK5.out p2 HBG.out hgl hil HI.out HRX.out h0 (by rw [← HBX.out]; rfl)
    | false =>
      go_upto_region 10 with fail
      have HG5 := hid (put_any HG4.out (i * 7 + 6) (.bool bad))
      have hof := own_put (k := i * 7 + 6) HO4.out (.bool bad)
      rw [FL5.out, FL6.out (.bool bad)] at hof
      have HOF := hid hof
      have HK5 := hid (HK4.out.trans (keepS1 w4 g (i * 7 + 6) (.bool bad)))
      generalize w4.setCell ⟨g, i * 7 + 6, none⟩ (.bool bad) = w5 at *
      have HZ5 := hid ((HK5.out.block _ (lt_of_block HZ3.out) (fun e => by have e9 : w.heap.size = g := e; omega)).trans HZ3.out)
      have HR5 := hid ((HK5.out.block _ (lt_of_block HR3.out) (fun e => by have e9 : w.heap.size + 1 = g := e; omega)).trans HR3.out)
      clear z3 g6 g6f hof
      have z0 := cell_in HZ5.out 0 _ rfl
      have r0 := cell_in HR5.out 0 _ rfl
      have r0f := free_in HR5.out 0
      have z1 := cell_in HZ5.out 1 _ rfl
      have r1 := cell_in HR5.out 1 _ rfl
      have r1f := free_in HR5.out 1
      have z2 := cell_in HZ5.out 2 _ rfl
      have r2 := cell_in HR5.out 2 _ rfl
      have r2f := free_in HR5.out 2
      have z3 := cell_in HZ5.out 3 _ rfl
      have r3 := cell_in HR5.out 3 _ rfl
      have r3f := free_in HR5.out 3
      go_wp2_with fail
      obtain ⟨p1, p2⟩ := put4 HR5.out (.int .i64 (C.ver + 1)) (.int .i64 C.nxt) (.slice sa C.tabs.length sc) (.slice (some ⟨g, 0, none⟩) C.idxs.length kc)
      generalize (((w5.setCell ⟨w.heap.size + 1, 0, none⟩ (.int .i64 (C.ver + 1))).setCell ⟨w.heap.size + 1, 1, none⟩ (.int .i64 C.nxt)).setCell ⟨w.heap.size + 1, 2, none⟩ (.slice sa C.tabs.length sc)).setCell ⟨w.heap.size + 1, 3, none⟩ (.slice (some ⟨g, 0, none⟩) C.idxs.length kc) = s4 at *
      refine bodyPost_ret (results_cell2 rfl _ _ (w.heap.size + 1) 25 _ (0, 0) _ rfl p1 Try.underlying25 rfl (by kernel_rfl)) rfl ?_
      exact fin_moved HT.out HAP.out hb HM1.out HM3.out HM4.out HOF.out rfl HKw3.out HK5.out p2 HBG.out hgl hil HI.out HRX.out h0 (by rw [← HBX.out]; rfl)
end Go.Proofs.Ytafcbelkhhjcoaa
