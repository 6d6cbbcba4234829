/-
  THE CODE's ENC.
-/
import Derived.Test.YtacmidfcocjdjaaTPut2
namespace Go.Proofs.Ytacmidfcocjdjaa
open Go.RowKit

/-- Why there are no bytes (9: one is not right; 10: too many), or 0. -/
def encE (l : List Vl) : Int := if ∀ v ∈ l, okV v then (if 16 < l.length then 10 else 0) else 9
/-- The bytes, where there are. -/
def encO (l : List Vl) : List UInt8 := if encE l = 0 then encL l else []

theorem encE_bad {l : List Vl} {k : Nat} {v : Vl} (h : l[k]? = some v) (hv : ¬ okV v) : encE l = 9 ∧ encO l = [] := by
  have e : encE l = 9 := by
    unfold encE
    rw [if_neg]
    intro ha
    exact hv (ha v (List.mem_of_getElem? h))
  exact ⟨e, by unfold encO; rw [e]; rfl⟩

theorem encE_long {l : List Vl} (h : ∀ v ∈ l, okV v) (hl : 16 < l.length) : encE l = 10 ∧ encO l = [] := by
  have e : encE l = 10 := by unfold encE; rw [if_pos h, if_pos hl]
  exact ⟨e, by unfold encO; rw [e]; rfl⟩

theorem encE_ok {l : List Vl} (h : ∀ v ∈ l, okV v) (hl : ¬ 16 < l.length) : encE l = 0 ∧ encO l = encL l := by
  have e : encE l = 0 := by unfold encE; rw [if_pos h, if_neg hl]
  exact ⟨e, by unfold encO; rw [e]; rfl⟩

theorem all_of {l : List Vl} {p : Vl → Prop} (h : ∀ (j : Nat) (v : Vl), l[j]? = some v → p v) : ∀ v ∈ l, p v := fun v hv => by
  obtain ⟨j, hj, e⟩ := List.mem_iff_getElem.1 hv
  exact h j v (by rw [List.getElem?_eq_getElem hj, e])

theorem encL_take {l : List Vl} {k : Nat} {v : Vl} (h : l[k]? = some v) : encL (l.take (k + 1)) = encL (l.take k) ++ valB v := by
  rw [List.take_add_one, h]
  show encL (l.take k ++ [v]) = _
  rw [encL_app]
  simp [encL]

theorem alloc_then {w wr w2 : World} {o : Obj} (h : Below w.heap.size w wr) (g : Below (wr.alloc o).heap.size (wr.alloc o) w2) : Below w.heap.size w w2 :=
  (h.alloc h.size o).trans (g.mono (h.alloc h.size o).size)

/-- What Enc gives. -/
def EncIs (l : List Vl) (w : World) (e : Ending) (w' : World) : Prop :=
  ∃ y, e = .returned (.tuple #[y, .int .i64 (encE l)]) ∧ w'.ownsRow w.heap.size 5 1 y (encO l).length ((encO l).map bv) ∧ Below w.heap.size w w'

theorem EncIs.elim {l : List Vl} {w : World} {e : Ending} {w' : World} (h : EncIs l w e w') : ∃ (ao : Option Addr) (c : Nat), e = .returned (.tuple #[.slice ao (encO l).length c, .int .i64 (encE l)]) ∧ w'.ownsRow w.heap.size 5 1 (.slice ao (encO l).length c) (encO l).length ((encO l).map bv) ∧ Below w.heap.size w w' := by
  obtain ⟨y, rfl, h1, h2⟩ := h
  obtain ⟨ao, c, rfl, _⟩ := Rd.own h1
  exact ⟨ao, c, rfl, h1, h2⟩

set_option maxHeartbeats 2000000 in
set_option maxRecDepth 100000 in
theorem enc_any (x : Value) (l : List Vl) (w : World) (hx : Vs w x l) (hin : ∀ v ∈ l, inV v) (hl : l.length ≤ 140737488355328) :
    Calls Try.prog 12 #[x] w (EncIs l w) := by
  obtain ⟨ao, c, rfl, -⟩ := hx.form
  have HX := hid hx
  have HI := hid hin
  clear hx hin
  go_enter Try.func12, Try.ntmps12
  go_wp2_with fail
  go_loopw [11] (fun i wr => ∃ k, k ≤ l.length ∧ i = .int .i64 (k : Int) ∧ (∀ j v, j < k → l[j]? = some v → okV v) ∧ Below w.heap.size w wr) (fun i _ => l.length - (intOf i).toNat)
  case atStart => exact ⟨0, by omega, rfl, fun j v h => by omega, Below.refl _ _⟩
  case round =>
    obtain ⟨k, hk, rfl, hok, hb⟩ := hrel
    have HO := hid hok
    have HB := hid hb
    clear hok hb
    by_cases hlt : k < l.length
    · have hv := List.getElem?_eq_getElem hlt
      generalize l[k] = v at *
      obtain ⟨b, off, rfl, d1, d2, d3⟩ := (HX.out.old HB.out).get hv
      have HV := hid hv
      clear hv
      have C := fun W => right_any v W
      unfold sv at C
      by_cases ho : okV v
      · rw [decide_eq_true ho] at C
        go_wp2_with (first | (go_at_call 15; refine (C _).mono ?_; rintro e w2 ⟨rfl, hb2⟩))
        have HB2 := hid (alloc_then HB.out hb2)
        clear hb2
        go_roundw
        case rel =>
          refine ⟨k + 1, by omega, by go_num, fun j u hj hu => ?_, HB2.out⟩
          by_cases hjk : j < k
          · exact HO.out j u hjk hu
          · obtain rfl : j = k := by omega
            rw [HV.out] at hu
            cases hu
            exact ho
        case measure => simp [intOf]; omega
      · have HE := hid (encE_bad HV.out ho)
        rw [decide_eq_false ho] at C
        go_wp2_with (first | (go_at_call 15; refine (C _).mono ?_; rintro e w2 ⟨rfl, hb2⟩))
        have HB2 := hid (alloc_then HB.out hb2)
        go_ret2
        obtain ⟨h1, h2⟩ := HE.out
        unfold EncIs
        rw [h1, h2]
        exact ⟨_, rfl, World.ownsRow_nil _ _ _ _, HB2.out⟩
    · have HA : Hid (∀ v ∈ l, okV v) := all_of (fun j v hj => HO.out j v (by have := (List.getElem?_eq_some_iff.1 hj).1; omega) hj)
      by_cases h16 : 16 < l.length
      · have HE := hid (encE_long HA.out h16)
        go_wp2_with fail
        go_ret2
        obtain ⟨h1, h2⟩ := HE.out
        unfold EncIs
        rw [h1, h2]
        exact ⟨_, rfl, World.ownsRow_nil _ _ _ _, HB.out⟩
      · have HE := hid (encE_ok HA.out h16)
        go_wp2_with fail
        go_loopw [6, 24] (fun y i wr => ∃ k, k ≤ l.length ∧ i = .int .i64 (k : Int) ∧ wr.ownsRow w.heap.size 5 1 y (encL (l.take k)).length ((encL (l.take k)).map bv) ∧ Below w.heap.size w wr) (fun _ i _ => l.length - (intOf i).toNat)
        case atStart => exact ⟨0, by omega, rfl, World.ownsRow_nil _ _ _ _, HB.out⟩
        case round =>
          obtain ⟨k2, hk2, rfl, hown, hb⟩ := hrel
          clear HB hlt
          have HO2 := hid hown
          have HB := hid hb
          clear hown hb
          by_cases hlt : k2 < l.length
          · have hv := List.getElem?_eq_getElem hlt
            have hmem := List.mem_of_getElem? hv
            generalize l[k2] = v at *
            have hok := HA.out v hmem
            have hin := HI.out v hmem
            obtain ⟨b, off, rfl, d1, d2, d3⟩ := (HX.out.old HB.out).get hv
            have hlen : (encL (l.take k2)).length ≤ 90000 := by
              have := encL_len (l := l.take k2) (fun u hu => HA.out u (List.mem_of_mem_take hu))
              rw [List.length_take] at this
              omega
            have HE2 := hid (encL_take hv)
            have HL := hid hlen
            clear hv hlen
            have ho := HO2.out.alloc (.cells #[.int .i64 v.k, .int .i64 v.i, .string ⟨v.s.toArray⟩] 24)
            have B1 := HB.out.alloc HB.out.size (.cells #[.int .i64 v.k, .int .i64 v.i, .string ⟨v.s.toArray⟩] 24)
            have C := put_any w.heap.size _ (encL (l.take k2)) v _ ho B1.size HL.out hok hin
            unfold sv at C
            have B1' := hid B1
            clear ho B1 hmem hok hin
            go_wp2_with (first | (go_at_call 31; refine C.mono ?_; rintro e w2 ⟨y2, rfl, q1, q2⟩))
            have Q1 := hid q1
            have Q2 := hid (B1'.out.trans q2)
            clear q1 q2
            go_roundw
            case rel => exact ⟨k2 + 1, by omega, by go_num, by rw [HE2.out]; exact Q1.out, Q2.out⟩
            case measure => simp [intOf]; omega
          · obtain rfl : k2 = l.length := by omega
            go_wp2_with fail
            go_ret2
            obtain ⟨h1, h2⟩ := HE.out
            unfold EncIs
            rw [h1, h2]
            have := HO2.out
            rw [List.take_length] at this
            exact ⟨_, rfl, this, HB.out⟩
end Go.Proofs.Ytacmidfcocjdjaa
