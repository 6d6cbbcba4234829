/-
  Lists of bytes: what came in; the laws' helper Same.
-/
import Derived.Test.YtcbbklbjfknnlaaDoorWi
import Derived.LoopN
import Derived.BigQuiet
import Derived.OpenShut
import Derived.WalkKit
import Derived.ProofKit
import Derived.Deep.Matrix
import Derived.Deep.Grids
set_option linter.unusedVariables false
set_option linter.unusedSimpArgs false
set_option maxRecDepth 100000
namespace Go.Proofs.YtcbbklbjfknnlaaDoor
open Go.RowKit Go.ChangeShapes Go.WideShapes Go.ChangeAt Go.Deep

theorem wbytes_any (x y : Value) (l m : List UInt8) (w : World) (hx : Rd w x l) (hy : Rd w y m) :
    Calls Tryd.prog 19 #[x, y] w fun e w' => e = .returned (.bool (l == m)) ∧ w' = w := by
  have c1 := hx.conv (P := Tryd.prog) 32 9 5 Tryd.underlying32 Tryd.underlying5 Tryd.underlying9
  have c2 := hy.conv (P := Tryd.prog) 32 9 5 Tryd.underlying32 Tryd.underlying5 Tryd.underlying9
  clear hx hy
  go_enter Tryd.func19, Tryd.ntmps19
  go_wp2_with fail
  go_ret
  exact ⟨rfl, rfl⟩

/-- The slice x reads as a list of bytes. -/
def Bss (w : World) (x : Value) (R : List Rc) : Prop := Rws 1 w x (R.map fun r => [rcv r]) ∧ ∀ r ∈ R, Rd w (rcv r) r.b
theorem Bss.old {w w' : World} {x : Value} {R : List Rc} (h : Bss w x R) (hb : Below w.heap.size w w') : Bss w' x R := ⟨h.1.old hb, fun r hr => (h.2 r hr).old hb⟩
theorem Bss.form {w : World} {x : Value} {R : List Rc} (h : Bss w x R) : ∃ ao c, x = .slice ao R.length c ∧ R.length ≤ c ∧ c ≤ maxLen := by
  obtain ⟨ao, c, e, h1, h2⟩ := h.1.form
  rw [List.length_map] at e h1
  exact ⟨ao, c, e, h1, h2⟩
theorem Bss.get {w : World} {ao : Option Addr} {n c : Nat} {R : List Rc} (h : Bss w (.slice ao n c) R) {k : Nat} {r : Rc} (hk : R[k]? = some r) : ∃ b off, ao = some ⟨b, off, none⟩ ∧ w.cell? ⟨b, off + k, none⟩ = some (rcv r) ∧ Rd w (rcv r) r.b := by
  obtain ⟨b, off, e, hc⟩ := h.1.get (by decide) (k := k) (r := [rcv r]) (by rw [List.getElem?_map, hk]; rfl)
  have := hc 0 (rcv r) rfl
  rw [Nat.mul_one, Nat.add_zero] at this
  exact ⟨b, off, e, this, h.2 r (List.mem_of_getElem? hk)⟩
theorem Bss.cut {w : World} {x : Value} {R : List Rc} (h : Bss w x R) (n : Nat) (hn : n ≤ R.length) :
    ∃ (ao : Option Addr) (c : Nat), (∀ W, (Instr.slice 22 x (some (.int .i64 (n : Int))) none none).run Tryd.prog W = .ok (.slice ao (R.length - n) c) W) ∧ Bss w (.slice ao (R.length - n) c) (R.drop n) := by
  obtain ⟨ao, c, h1, h2, -⟩ := h.1.cut (P := Tryd.prog) (by decide) 22 32 Tryd.underlying22 (by kernel_rfl) n (by rw [List.length_map]; exact hn)
  rw [List.length_map] at h1 h2
  refine ⟨ao, c, h1, ⟨by rw [List.map_drop]; exact h2, fun r hr => h.2 r (List.mem_of_mem_drop hr)⟩⟩
theorem flat_one (R : List Rc) : (R.map fun r => [rcv r]).flatten = R.map rcv := by
  induction R with
  | nil => rfl
  | cons r R ih => simp only [List.map_cons, List.flatten_cons, ih]; rfl
theorem Rown.bss {B : Nat} {w : World} {y : Value} {R : List Rc} (h : Rown B w y R) : Bss w y R := by
  refine ⟨Rws.own (base := B) (e := 32) ?_ ?_, h.each⟩
  · rw [flat_one, List.length_map]
    exact h.row
  · intro r hr
    obtain ⟨q, -, rfl⟩ := List.mem_map.1 hr
    refine ⟨rfl, fun u hu => ?_⟩
    obtain rfl := List.mem_singleton.1 hu
    rfl

set_option maxHeartbeats 4000000 in
theorem same_bs (x y : Value) (A B : List Rc) (w : World) (hx : Bss w x A) (hy : Bss w y B) (hAB : A.map (·.b) = B.map (·.b)) :
    Calls Tryd.prog 17 #[x, y, .func (.func 19) #[] #[]] w (AnsP w (.bool true)) := by
  obtain ⟨ao, c, rfl, hc1, hm⟩ := hx.form
  obtain ⟨bo, d, rfl, hd1, hm2⟩ := hy.form
  have hlen : A.length = B.length := by simpa using congrArg List.length hAB
  have hm9 : maxLen = 9223372036854775807 := rfl
  have hl1 := fun W => run_len_slice (P := Tryd.prog) W 22 3 ao A.length c Tryd.underlying22
  have hl2 := fun W => run_len_slice (P := Tryd.prog) W 22 3 bo B.length d Tryd.underlying22
  rw [← hlen] at hl2 ⊢
  have HX := hid hx
  have HY2 : Hid (Bss w (.slice bo A.length d) B) := by show Bss w (.slice bo A.length d) B; rw [hlen]; exact hy
  have HAB := hid hAB
  have HLEN := hid hlen
  have hn9 : (A.length : Int) ≤ 9223372036854775807 := by omega
  have hcA : A.length ≤ c := hc1
  have hdA : A.length ≤ d := by omega
  clear hx hy hAB hlen hm hm2 hm9 hc1 hd1
  go_enter Tryd.func17, Tryd.ntmps17
  go_wp2_with fail
  go_loopw [6, 7] (fun r i wr => ∃ k : Nat, k ≤ A.length ∧ i = .int .i64 (k : Int) ∧ Hid (Below w.heap.size w wr)) (fun _ i _ => A.length - (intOf i).toNat)
  case atStart => exact ⟨0, by omega, rfl, Below.refl _ _⟩
  case round =>
    obtain ⟨k, hk, rfl, HB⟩ := hrel
    by_cases hlt : k < A.length
    · have hv := List.getElem?_eq_getElem hlt
      have hu : B[k]? = some (B[k]'(by have := HLEN.out; omega)) := List.getElem?_eq_getElem (by have := HLEN.out; omega)
      generalize A[k] = a at *
      generalize B[k] = b at *
      obtain ⟨b1, off1, rfl, d1, d2⟩ := (HX.out.old HB.out).get hv
      obtain ⟨b2, off2, rfl, e1, e2⟩ := (HY2.out.old HB.out).get hu
      have hs : a.b = b.b := by
        have h1 := congrArg (fun L => L[k]?) HAB.out
        simp only [List.getElem?_map, hv, hu, Option.map_some, Option.some.injEq] at h1
        exact h1
      obtain ⟨aa, ac, ab⟩ := a
      obtain ⟨ba, bc, bb⟩ := b
      unfold rcv at d1 d2 e1 e2
      simp only at d1 d2 e1 e2 hs
      subst hs
      have hkI : (k : Int) < (A.length : Int) := by omega
      have hkc : (k : Int) < (c : Int) := by omega
      have hkd : (k : Int) < (d : Int) := by omega
      have C : ∀ m, Calls Tryd.prog 19 #[.slice aa ab.length ac, .slice ba ab.length bc] (wr.drewN m) (fun e w' => e = .returned (.bool true) ∧ ∃ j, w' = wr.drewN j) := fun m => by
        have hb := (⟨rfl, rfl, rfl, Nat.le_refl _, fun _ _ => rfl⟩ : Below wr.heap.size wr (wr.drewN m))
        refine (wbytes_any _ _ ab ab (wr.drewN m) (d2.old hb) (e2.old hb)).mono ?_
        rintro e w' ⟨rfl, rfl⟩
        exact ⟨by simp, m, rfl⟩
      clear hv hu d2 e2
      go_wp2_with fail
      go_quiet (first | (go_at_call 19; exact C _))
      have HB2 : Hid (Below w.heap.size w (wr.drewN nq)) := HB.out.trans ⟨rfl, rfl, rfl, Nat.le_refl _, fun _ _ => rfl⟩
      generalize wr.drewN nq = wq at *
      go_wp2_with fail
      go_roundw
      case rel => exact ⟨k + 1, by omega, by go_num, HB2⟩
      case measure => first | (simp [intOf]; done) | (simp [intOf]; omega)
    · obtain rfl : k = A.length := by omega
      go_wp2_with fail
      go_ret
      exact ⟨rfl, HB.out⟩

/-- A list of bytes that came in. -/
theorem bss_open {H : Type} {enc : TypeId × Value → H} {W : World} {a : Option Addr} {len cap : Nat} {d : DataW H} {p : List MemPlace} (h : DataW.Trod enc Tryd.prog W 0 (fun _ => true) true 22 (.slice a len cap) d p) : ∃ R : List Rc, R.length = len ∧ Bss W (.slice a len cap) R := by
  obtain ⟨fuel, hf⟩ := h
  rcases open_int_rows Tryd.underlying22 Tryd.underlying32 Tryd.underlying5 (by kernel_rfl) (by kernel_rfl) hf with ⟨hcs, hx⟩ | ⟨x, l, c, A, L, C, Z, hcs, _, hl, hm, hx, hall⟩
  · simp [Value.cells] at hcs
    obtain ⟨rfl, rfl, rfl⟩ := hcs
    exact ⟨[], rfl, Rws.nil _ _, by simp⟩
  · simp [Value.cells] at hcs
    obtain ⟨rfl, rfl, rfl⟩ := hcs
    have each : ∀ r, r < cap → ∃ q : Rc, rcv q = .slice (A r) (L r) (C r) ∧ Rd W (rcv q) q.b := fun r hr => by
      obtain ⟨h1, h2, h3, h4, h5, h6, h7⟩ := hall r hr
      have hlen : (((Z r).take (L r)).map fun n => UInt8.ofNat n.toNat).length = L r := by simp; omega
      refine ⟨⟨A r, C r, ((Z r).take (L r)).map fun n => UInt8.ofNat n.toNat⟩, by unfold rcv; rw [hlen], ?_⟩
      unfold rcv
      refine ⟨A r, C r, rfl, by rw [hlen]; exact h2, h3, h6, fun a ha j u hu => ?_⟩
      have hj : j < L r := by
        have := (List.getElem?_eq_some_iff.1 hu).1
        rw [List.length_map, hlen] at this
        exact this
      have hjz : j < (Z r).length := by omega
      rw [(h7 a ha).2 j (by omega)]
      have hwj := h5 (Z r)[j] (List.getElem_mem hjz)
      have hb := bounds_u8 hwj
      rw [List.map_map, List.getElem?_map, List.getElem?_take_of_lt hj, List.getElem?_eq_getElem hjz] at hu
      simp only [Option.map_some, Option.some.injEq, Function.comp_apply] at hu
      rw [← hu, List.getD_eq_getElem?_getD, List.getElem?_eq_getElem hjz, Option.getD_some]
      unfold bv
      rw [UInt8.toNat_ofNat']
      have e : (Z r)[j] = (((Z r)[j].toNat % 2 ^ 8 : Nat) : Int) := by omega
      rw [← e]
    haveI : Inhabited Rc := ⟨⟨none, 0, []⟩⟩
    obtain ⟨q, hq⟩ := choose_lt each
    have hlen : ((List.range len).map q).length = len := by simp
    refine ⟨(List.range len).map q, hlen, ⟨some x, cap, by rw [List.length_map, hlen], by rw [List.length_map, hlen]; exact hl, hm, (fun h => by cases h), fun r hr => ?_, fun a ha j u hu => ?_⟩, fun r hr => ?_⟩
    · obtain ⟨q', -, rfl⟩ := List.mem_map.1 hr
      refine ⟨rfl, fun u hu => ?_⟩
      obtain rfl := List.mem_singleton.1 hu
      rfl
    · cases ha
      rw [flat_one, List.map_map] at hu
      have hj : j < len := by
        have := (List.getElem?_eq_some_iff.1 hu).1
        simpa using this
      rw [List.getElem?_map, List.getElem?_range hj] at hu
      simp only [Option.map_some, Option.some.injEq] at hu
      rw [(hall j (by omega)).1, ← hu]
      exact congrArg some (hq j (by omega)).1.symm
    · obtain ⟨k, hk, rfl⟩ := List.mem_map.1 hr
      exact (hq k (by have := List.mem_range.1 hk; omega)).2

/-- Tests that came in. -/
theorem bools_rd {H : Type} {enc : TypeId × Value → H} {W : World} {a : Option Addr} {len cap : Nat} {d : DataW H} {p : List MemPlace} (h : DataW.Trod enc Tryd.prog W 0 (fun _ => true) true 47 (.slice a len cap) d p) : len ≤ cap ∧ cap ≤ maxLen ∧ ∀ k, k < len → ∃ b off v, a = some ⟨b, off, none⟩ ∧ b < W.heap.size ∧ W.cell? ⟨b, off + k, none⟩ = some (.bool v) := by
  obtain ⟨fuel, hf⟩ := h
  rcases open_bools Tryd.underlying47 Tryd.underlying4 (by kernel_rfl) hf with ⟨hcs, hx⟩ | ⟨x, l, c, B, hcs, _, hl, hm, hx, hc⟩
  · simp [Value.cells] at hcs
    obtain ⟨rfl, rfl, rfl⟩ := hcs
    exact ⟨Nat.le_refl _, by decide, fun k hk => by omega⟩
  · simp [Value.cells] at hcs
    obtain ⟨rfl, rfl, rfl⟩ := hcs
    refine ⟨hl, hm, fun k hk => ?_⟩
    obtain ⟨b, off, spot⟩ := x
    have hspot : spot = none := by simpa [Addr.add] using World.cell?_spot (hc 0 (by omega))
    subst hspot
    have h0 := hc 0 (by omega)
    have h1 := hc k (by omega)
    rw [Go.WideShapes.add_plain] at h0 h1
    exact ⟨b, off, _, rfl, World.block_lt_of_cell? W _ h0, h1⟩
end Go.Proofs.YtcbbklbjfknnlaaDoor
