/-
  CODE's FIRST: the number at the beginning of bytes.
-/
import Derived.Test.YtmkcdckemaohdaaBits
import Derived.Test.YtmkcdckemaohdaaBytes
namespace Go.Proofs.Ytmkcdckemaohdaa
open Go.RowKit

/-- Bytes that are there lie at a plain address. -/
theorem Rd.at {w : World} {x : Value} {l : List UInt8} (h : Rd w x l) (hl : 0 < l.length) :
    ∃ b off c, x = .slice (some ⟨b, off, none⟩) l.length c ∧ l.length ≤ c ∧ c ≤ maxLen ∧ ∀ j (hj : j < l.length), w.cell? ⟨b, off + j, none⟩ = some (.int .u8 ((l[j]).toNat : Int)) := by
  obtain ⟨ao, c, rfl, h1, h2, h3, h4⟩ := h
  cases ao with
  | none => have := h3 rfl; omega
  | some a =>
    obtain ⟨b, off, spot⟩ := a
    have h0 := h4 _ rfl 0 (bv l[0]) (by simp [List.getElem?_eq_getElem hl])
    have hspot : spot = none := by simpa [Addr.add] using World.cell?_spot h0
    subst hspot
    refine ⟨b, off, c, rfl, h1, h2, fun j hj => ?_⟩
    have hj' := h4 _ rfl j (bv l[j]) (by simp [List.getElem?_eq_getElem hj])
    rw [WideShapes.add_plain] at hj'
    exact hj'

set_option maxHeartbeats 1000000 in
set_option maxRecDepth 100000 in
theorem first_any (x : Value) (l : List UInt8) (w : World) (hr : Rd w x l) :
    Calls Try.prog 43 #[x] w fun e w' => e = .returned (.tuple #[.int .u64 ((rdN 0 0 l).1 : Nat), .int .i64 ((rdN 0 0 l).2.1 : Nat), .int .i64 (rdN 0 0 l).2.2]) ∧ w = w' := by
  by_cases hl : l = []
  · subst hl
    obtain ⟨ao, c, rfl, -⟩ := hr
    have e : rdN 0 0 [] = (0, 0, 8) := rfl
    rw [e]
    go_enter Try.func43, Try.ntmps43
    go_wp2
    refine wp_loop_rounds 1 ?_
    rw [rounds_succ]
    go_wp2
    go_ret3
    exact ⟨rfl, rfl⟩
  · have hlen : 0 < l.length := List.length_pos_iff.2 hl
    obtain ⟨b, off, cp, rfl, h1, h2, hc⟩ := hr.at hlen
    unfold maxLen at h2
    go_enter Try.func43, Try.ntmps43
    go_wp2
    go_loop [5, 10] (fun v i => ∃ (k V : Nat), k ≤ l.length ∧ i = .int .i64 k ∧ v = .int .u64 V ∧ V < 128 ^ k ∧ k ≤ 9 ∧ rdN k V (l.drop k) = rdN 0 0 l) (fun _ i => l.length - (intOf i).toNat)
    case atStart => exact ⟨0, 0, Nat.zero_le _, rfl, rfl, by decide, by omega, rfl⟩
    case round =>
      obtain ⟨k, V, hk, rfl, rfl, hV, hk9, hrec⟩ := hrel
      by_cases hlt : k < l.length
      · have hck := hc k hlt
        have hd : l.drop k = l[k] :: l.drop (k + 1) := List.drop_eq_getElem_cons hlt
        rw [hd] at hrec
        have hc256 : (l[k]).toNat < 256 := UInt8.toNat_lt _
        generalize l[k] = c at *
        have Hrec := hid hrec
        have HV := hid hV
        have Hd := hid hd
        clear hrec hd hc hV
        have HO : ¬ (k = 9 ∧ 1 < c.toNat) → Hid (bits BinOp.or IntKind.u64 (V : Int) (IntKind.u64.wrap (IntKind.u64.wrap (bits BinOp.andNot IntKind.u8 (c.toNat : Int) 128) * 2 ^ (7 * k))) = ((V + c.toNat % 128 * 128 ^ k : Nat) : Int)) := fun h => or_step HV.out hk9 hc256 h
        have HS := hid (step_lt (c := c.toNat) HV.out)
        by_cases t1 : k = 9 ∧ 1 < c.toNat
        · have HF : Hid (rdN 0 0 l = (0, 0, 9)) := by rw [← Hrec.out]; exact rdN_form t1
          obtain ⟨rfl, t1b⟩ := t1
          clear HO HS Hrec Hd
          go_wp2
          go_ret3
          rw [HF.out]
          exact ⟨rfl, rfl⟩
        · have HO' := HO t1
          clear HO
          by_cases t2 : 128 ≤ c.toNat
          · have HF : Hid (rdN (k + 1) (V + c.toNat % 128 * 128 ^ k) (l.drop (k + 1)) = rdN 0 0 l) := by rw [← Hrec.out]; exact (rdN_more t1 t2).symm
            have hk9' : k ≠ 9 := by omega
            clear Hrec Hd t1
            go_wp2
            go_round
            case rel => exact ⟨k + 1, _, by omega, by go_num, by rw [HO'.out], HS.out, by omega, HF.out⟩
            case measure => simp [intOf]; omega
          · by_cases t3 : c.toNat = 0 ∧ 0 < k
            · have HF : Hid (rdN 0 0 l = (0, 0, 9)) := by rw [← Hrec.out]; exact rdN_zero t1 t2 t3
              clear Hrec Hd HS
              obtain ⟨t3a, t3b⟩ := t3
              clear HO'
              go_wp2
              all_goals (go_ret3; rw [HF.out]; exact ⟨rfl, rfl⟩)
            · have HF : Hid (rdN 0 0 l = (V + c.toNat % 128 * 128 ^ k, k + 1, 0)) := by rw [← Hrec.out]; exact rdN_last t1 t2 t3
              clear Hrec Hd HS
              by_cases t4 : k = 9
              · subst t4
                have ev := HO'.out
                rw [show (2 : Int) ^ (7 * 9) = 9223372036854775808 from by decide] at ev
                have HE := hid ev
                have d1 : decide ((1 : Int) < (c.toNat : Int)) = false := by simp; omega
                have t5 : ¬ (c.toNat : Int) = 0 := by omega
                clear ev HO'
                go_wp2
                go_ret3
                rw [HF.out, HE.out]
                exact ⟨rfl, rfl⟩
              · by_cases t5 : c.toNat = 0
                · have t6 : ¬ (0 : Int) < (k : Int) := by omega
                  have t4' : ¬ (k : Int) = 9 := by omega
                  have t5' : (c.toNat : Int) = 0 := by omega
                  have ev := HO'.out
                  rw [t5'] at ev
                  have HE := hid ev
                  clear ev HO'
                  go_wp2
                  go_ret3
                  rw [HF.out, HE.out]
                  exact ⟨rfl, rfl⟩
                · have HE := HO'
                  have t4' : ¬ (k : Int) = 9 := by omega
                  have t5' : ¬ (c.toNat : Int) = 0 := by omega
                  clear HO'
                  go_wp2
                  go_ret3
                  rw [HF.out, HE.out]
                  exact ⟨rfl, rfl⟩
      · obtain rfl : k = l.length := by omega
        have HF : Hid (rdN 0 0 l = (0, 0, 8)) := by rw [← hrec, List.drop_length]; rfl
        clear hrec hV
        go_wp2
        go_ret3
        rw [HF.out]
        exact ⟨rfl, rfl⟩
end Go.Proofs.Ytmkcdckemaohdaa
