/-
  AWAKE, RIGHT of the laws; the helpers BYTES, COPYBYTES, BEGINS.
-/
import Derived.Test.YtacmidfcocjdjaaTEnc
import Derived.BigQuiet
import Derived.Deep.QuietTactic
namespace Go.Proofs.Ytacmidfcocjdjaa
open Go.RowKit

/-- A slice of one value that was laid out. -/
theorem Vs.one {w : World} {g : Nat} {v : Vl} {t : TypeId} (h : w.heap[g]? = some (.cells #[.int .i64 v.k, .int .i64 v.i, .string ⟨v.s.toArray⟩] t (0, 0))) : Vs w (.slice (some ⟨g, 0, none⟩) 1 1) [v] := by
  refine ⟨some ⟨g, 0, none⟩, 1, rfl, by simp, by unfold maxLen; simp, (fun h => by cases h), fun a ha => ?_⟩
  cases ha
  intro j u hu
  obtain ⟨d1, d2, d3⟩ := three_cells h
  rw [WideShapes.add_plain, Nat.zero_add]
  have e : cellsL [v] = [.int .i64 v.k, .int .i64 v.i, .string ⟨v.s.toArray⟩] := rfl
  rw [e] at hu
  match j, hu with
  | 0, hu => simp at hu; subst hu; exact d1
  | 1, hu => simp at hu; subst hu; exact d2
  | 2, hu => simp at hu; subst hu; exact d3
  | j + 3, hu => simp at hu

theorem one_enc : encE [⟨1, 1, []⟩] = 0 ∧ encO [⟨1, 1, []⟩] = [2, 128, 0, 0, 0, 0, 0, 0, 1] := by
  have h : ∀ v ∈ [(⟨1, 1, []⟩ : Vl)], okV v := by
    intro v hv
    simp only [List.mem_cons, List.not_mem_nil, or_false] at hv
    subst hv
    exact .inr (.inl ⟨rfl, rfl⟩)
  obtain ⟨h1, h2⟩ := encE_ok h (by decide)
  exact ⟨h1, h2.trans (by decide)⟩

set_option maxHeartbeats 2000000 in
set_option maxRecDepth 100000 in
theorem awake_any (w : World) : Calls Try.prog 10 #[] w (Ans w (.bool true)) := by
  have C := enc_any (.slice (some ⟨w.heap.size, 0, none⟩) 1 1) [⟨1, 1, []⟩] (w.alloc (.cells #[.int .i64 1, .int .i64 1, .string ⟨#[]⟩] 24)) (Vs.one (heap_alloc_new _ _)) (by
    intro v hv
    simp only [List.mem_cons, List.not_mem_nil, or_false] at hv
    subst hv
    exact ⟨by decide, by decide⟩) (by decide)
  have C2 := fun W => right_any ⟨0, 0, []⟩ W
  rw [decide_eq_true (by exact .inl ⟨rfl, rfl, rfl⟩)] at C2
  unfold sv at C2
  have B1 := hid ((Below.refl w.heap.size w).alloc (Nat.le_refl _) (.cells #[.int .i64 1, .int .i64 1, .string ⟨#[]⟩] 24))
  go_enter Try.func10, Try.ntmps10
  go_wp2_with (first | (go_at_call 12; refine C.mono ?_))
  intro e w2 h2
  obtain ⟨ao, c, he, o2, g2⟩ := h2.elim
  rw [one_enc.1, one_enc.2] at he
  rw [one_enc.2] at o2
  have he' : e = .returned (.tuple #[.slice ao 9 c, .int .i64 0]) := he
  subst he'
  clear he
  have B2 := hid (alloc_then (Below.refl w.heap.size w) g2)
  obtain ⟨b, off, c', hx, -, -, hc⟩ := (Rd.own o2).at (by decide)
  simp only [Value.slice.injEq] at hx
  obtain ⟨rfl, -, rfl⟩ := hx
  have c0 : w2.cell? ⟨b, off, none⟩ = some (.int .u8 2) := hc 0 (by decide)
  have c1 : w2.cell? ⟨b, off + 1, none⟩ = some (.int .u8 128) := hc 1 (by decide)
  have c8 : w2.cell? ⟨b, off + 8, none⟩ = some (.int .u8 1) := hc 8 (by decide)
  clear hc o2 g2 h2 C B1
  go_wp2_with (first | (go_at_call 15; refine (C2 _).mono ?_; rintro e w3 ⟨rfl, hb⟩))
  have B3 := B2.out.trans (hb.mono B2.out.size)
  go_wp2
  go_ret
  exact ⟨rfl, B3⟩

set_option maxHeartbeats 2000000 in
set_option maxRecDepth 100000 in
theorem lright_any (x : Value) (l : List Vl) (w : World) (hx : Vs w x l) :
    Calls Try.prog 26 #[x] w (Ans w (.bool (decide ((∀ v ∈ l, okV v) ∧ l.length < 60)))) := by
  obtain ⟨ao, c, rfl, hl⟩ := hx.form
  unfold maxLen at hl
  have HX := hid hx
  clear hx
  go_enter Try.func26, Try.ntmps26
  go_wp2_with fail
  go_loopw [3] (fun i wr => ∃ k, k ≤ l.length ∧ i = .int .i64 (k : Int) ∧ (∀ j v, j < k → l[j]? = some v → okV v) ∧ Below w.heap.size w wr) (fun i _ => l.length - (intOf i).toNat)
  case atStart => exact ⟨0, by omega, rfl, fun j v h => by omega, Below.refl _ _⟩
  case round =>
    obtain ⟨k, hk, rfl, hok, hb⟩ := hrel
    have HO := hid hok
    have HB := hid hb
    clear hok hb
    by_cases hlt : k < l.length
    · have hv := List.getElem?_eq_getElem hlt
      generalize l[k] = v at *
      obtain ⟨b, off, rfl, d1, d2, d3⟩ := (HX.out.old HB.out).get hv
      have HV := hid hv
      clear hv
      have C := fun W => rright_any v W
      unfold sv at C
      by_cases ho : okV v
      · rw [decide_eq_true ho] at C
        go_wp2_with (first | (go_at_call 16; refine (C _).mono ?_; rintro e w2 ⟨rfl, hb2⟩))
        have HB2 := hid (HB.out.trans (hb2.mono HB.out.size))
        clear hb2
        go_wp2_with fail
        go_roundw
        case rel =>
          refine ⟨k + 1, by omega, by go_num, fun j u hj hu => ?_, HB2.out⟩
          by_cases hjk : j < k
          · exact HO.out j u hjk hu
          · obtain rfl : j = k := by omega
            rw [HV.out] at hu
            cases hu
            exact ho
        case measure => simp [intOf]; omega
      · have HE : Hid (decide ((∀ v ∈ l, okV v) ∧ l.length < 60) = false) := decide_eq_false (fun h => ho (h.1 v (List.mem_of_getElem? HV.out)))
        rw [decide_eq_false ho] at C
        go_wp2_with (first | (go_at_call 16; refine (C _).mono ?_; rintro e w2 ⟨rfl, hb2⟩))
        have HB2 := hid (HB.out.trans (hb2.mono HB.out.size))
        go_wp2_with fail
        go_ret
        unfold Ans
        rw [HE.out]
        exact ⟨rfl, HB2.out⟩
    · have HA : Hid (∀ v ∈ l, okV v) := all_of (fun j v hj => HO.out j v (by have := (List.getElem?_eq_some_iff.1 hj).1; omega) hj)
      have HE : Hid (decide ((∀ v ∈ l, okV v) ∧ l.length < 60) = decide ((l.length : Int) < 60)) := by
        show decide _ = decide _
        congr 1
        exact propext ⟨fun h => by omega, fun h => ⟨HA.out, by omega⟩⟩
      go_wp2_with fail
      go_ret
      unfold Ans
      rw [HE.out]
      exact ⟨rfl, HB.out⟩

set_option maxHeartbeats 1000000 in
set_option maxRecDepth 100000 in
theorem bytes_any (x y : Value) (l m : List UInt8) (w : World) (hx : Rd w x l) (hy : Rd w y m) :
    Calls Try.prog 14 #[x, y] w fun e w' => e = .returned (.bool (l == m)) ∧ w = w' := by
  have h1 := fun W (h : Rd W x l) => h.conv (P := Try.prog) 27 9 5 Try.underlying27 Try.underlying5 Try.underlying9
  have c1 := h1 w hx
  have c2 := hy.conv (P := Try.prog) 27 9 5 Try.underlying27 Try.underlying5 Try.underlying9
  clear h1 hx hy
  go_enter Try.func14, Try.ntmps14
  go_wp2_with fail
  go_ret
  exact ⟨rfl, rfl⟩

set_option maxHeartbeats 1000000 in
set_option maxRecDepth 100000 in
theorem copy_any (x : Value) (l : List UInt8) (w : World) (hx : Rd w x l) (hl : l.length ≤ 140737488355328) :
    Calls Try.prog 29 #[x] w (Gives 5 w l) := by
  have HX := hid hx
  go_enter Try.func29, Try.ntmps29
  go_wp2_with (first
    | (at_builtin; refine wp_app rfl _ _ 27 rfl w.heap.size 5 Try.underlying27 (by kernel_rfl) (.slice none 0 0) 0 [] rfl (World.ownsRow_nil _ _ _ _) _ l rfl HX.out ?c1 ?c2 ?_))
  case c1 => omega
  case c2 => exact Nat.le_refl _
  intro y w1 o1 g1
  have B1 : Below w.heap.size w w1 := (Below.refl _ _).grown g1 (Nat.le_refl _) (fun k hk => by cases hk)
  have O1 := hid o1
  clear o1 g1
  go_wp2_with fail
  go_ret
  refine ⟨_, rfl, ?_, B1⟩
  simpa using O1.out
end Go.Proofs.Ytacmidfcocjdjaa
