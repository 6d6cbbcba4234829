/-
  THE CODE's TAKE: the value that bytes begin with.
-/
import Derived.Test.YtacmidfcocjdjaaTPut
import Derived.Test.YtacmidfcocjdjaaTEnc
namespace Go.Proofs.Ytacmidfcocjdjaa
open Go.RowKit

theorem join8 (a c : Nat) (hc : c < 256) : a * 256 ||| c = a * 256 + c := by
  have h := Nat.two_pow_add_eq_or_of_lt (i := 8) (b := c) (by omega) a
  have e : 2 ^ 8 * a = a * 256 := by omega
  rw [e] at h
  exact h.symm

theorem shl_or {u c : Nat} (hu : u < 72057594037927936) (hc : c < 256) : bits BinOp.or IntKind.u64 (IntKind.u64.wrap ((u : Int) * 256)) (c : Int) = ((u * 256 + c : Nat) : Int) := by
  have e : IntKind.u64.wrap ((u : Int) * 256) = ((u * 256 : Nat) : Int) := by rw [IntKind.wrap_u64]; omega
  rw [e, u64_or_nat _ _ (by omega) (by omega), join8 u c hc]

theorem rdB_take {l : List UInt8} {k : Nat} (hk : k < l.length) : rdB 0 (l.take (k + 1)) = rdB 0 (l.take k) * 256 + l[k].toNat := by
  rw [List.take_add_one, List.getElem?_eq_getElem hk]
  show List.foldl _ 0 (l.take k ++ [l[k]]) = _
  rw [List.foldl_append]
  rfl

theorem rdB_lt (l : List UInt8) : ∀ k, k ≤ l.length → rdB 0 (l.take k) < 256 ^ k := by
  intro k
  induction k with
  | zero => intro _; simp [rdB]
  | succ k ih =>
    intro hk
    rw [rdB_take (by omega), Nat.pow_succ]
    have h1 := ih (by omega)
    have h2 := UInt8.toNat_lt l[k]
    omega

/-- What takeInt gives. -/
def intR (l : List UInt8) : Value := if l.length < 8 then .tuple #[.int .i64 0, .int .i64 8] else .tuple #[.int .i64 ((rdB 0 (l.take 8) : Int) - 9223372036854775808), .int .i64 0]

set_option maxHeartbeats 2000000 in
set_option maxRecDepth 100000 in
theorem takeInt_any (x : Value) (l : List UInt8) (w : World) (hx : Rd w x l) :
    Calls Try.prog 43 #[x] w fun e w' => e = .returned (intR l) ∧ w' = w := by
  have hlen := hx.len (P := Try.prog) 27 5
  unfold intR
  by_cases h8 : l.length < 8
  · obtain ⟨ao, c, rfl, -⟩ := hx
    rw [if_pos h8]
    go_enter Try.func43, Try.ntmps43
    go_wp2_with fail
    go_ret2
    exact ⟨rfl, rfl⟩
  · rw [if_neg h8]
    obtain ⟨b, off, cp, rfl, h1, h2, hc⟩ := hx.at (by omega)
    unfold maxLen at h2
    have HC := hid hc
    have H8 : Hid (8 ≤ l.length) := by show 8 ≤ l.length; omega
    clear hc hx
    go_enter Try.func43, Try.ntmps43
    go_wp2_with fail
    go_loop [4, 13] (fun u i => ∃ k : Nat, k ≤ 8 ∧ i = .int .i64 k ∧ u = .int .u64 (rdB 0 (l.take k) : Nat)) (fun _ i => 8 - (intOf i).toNat)
    case atStart => exact ⟨0, by omega, rfl, rfl⟩
    case round =>
      obtain ⟨k, hk, rfl, rfl⟩ := hrel
      by_cases hlt : k < 8
      · have hkl : k < l.length := by have := H8.out; omega
        have hck := HC.out k hkl
        have HT := hid (rdB_take hkl)
        have hlt2 := rdB_lt l k (by omega)
        have hp : 256 ^ k ≤ 256 ^ 7 := Nat.pow_le_pow_right (by decide) (by omega)
        have hc256 := UInt8.toNat_lt l[k]
        generalize rdB 0 (l.take k) = u at *
        generalize l[k] = c at *
        have hs := shl_or (u := u) (c := c.toNat) (by omega) hc256
        have e1 : IntKind.u64.wrap ((c.toNat : Nat) : Int) = ((c.toNat : Nat) : Int) := by rw [IntKind.wrap_u64]; omega
        clear hlt2 hp
        go_wp2_with fail
        go_round
        case rel => exact ⟨k + 1, by omega, by go_num, by rw [HT.out]; simp⟩
        case measure => simp [intOf]; omega
      · obtain rfl : k = 8 := by omega
        have hu := rdB_lt l 8 H8.out
        have hs := sign_out (u := rdB 0 (l.take 8)) (by omega)
        clear hu
        go_wp2_with fail
        go_ret2
        exact ⟨rfl, rfl⟩

/-- What takeText gives. -/
def textR (l : List UInt8) : Value := .tuple #[.string ⟨(rdT [] 0 l).1.toArray⟩, .int .i64 ((rdT [] 0 l).2.1 : Nat), .int .i64 (rdT [] 0 l).2.2]

theorem drop_cons {l : List UInt8} {k : Nat} (h : k < l.length) : l.drop k = l[k] :: l.drop (k + 1) := List.drop_eq_getElem_cons h

set_option maxHeartbeats 4000000 in
set_option maxRecDepth 100000 in
theorem takeText_any (x : Value) (l : List UInt8) (w : World) (hx : Rd w x l) :
    Calls Try.prog 44 #[x] w (Ans w (textR l)) := by
  have hlen := hx.len (P := Try.prog) 27 5
  obtain ⟨i0, hi, hz0, hz1, hz2⟩ := info_parts Try.info_u8
  unfold textR
  by_cases hl0 : l = []
  · subst hl0
    obtain ⟨ao, c, rfl, -⟩ := hx
    go_enter Try.func44, Try.ntmps44
    go_wp2_with fail
    refine wp_loop_rounds 1 ?_
    rw [rounds_succ]
    go_wp2_with fail
    go_ret3
    exact ⟨rfl, Below.refl _ _⟩
  obtain ⟨b, off, cp, rfl, h1, h2, hc⟩ := hx.at (List.length_pos_iff.2 hl0)
  unfold maxLen at h2
  have HX := hid hx
  have HC := hid (fun (wr : World) (hb : Below w.heap.size w wr) (k : Nat) (hk : k < l.length) => (by
    have := hc k hk
    rw [← this]
    exact hb.cell (p := ⟨b, off + k, none⟩) (World.block_lt_of_cell? w _ this) : wr.cell? ⟨b, off + k, none⟩ = some (.int .u8 ((l[k]).toNat : Int))))
  clear hc hx
  go_enter Try.func44, Try.ntmps44
  go_wp2_with fail
  go_loopw [5, 6] (fun y i wr => ∃ (k : Nat) (acc : List UInt8), k ≤ l.length ∧ i = .int .i64 k ∧ acc.length ≤ 20 ∧ rdT acc k (l.drop k) = rdT [] 0 l ∧ wr.ownsRow w.heap.size 5 1 y acc.length (acc.map bv) ∧ Below w.heap.size w wr) (fun _ i _ => l.length - (intOf i).toNat)
  case atStart => exact ⟨0, [], by omega, rfl, by simp, rfl, World.ownsRow_nil _ _ _ _, Below.refl _ _⟩
  case round =>
    obtain ⟨k, acc, hk, rfl, hal, hrd, hown, hb⟩ := hrel
    have HB := hid hb
    have HR := hid hrd
    have HQ : Hid (w.heap.size ≤ wr.heap.size) := hb.size
    clear hb hrd
    by_cases hlt : k < l.length
    · have hck := HC.out wr HB.out k hlt
      have HD := hid (drop_cons hlt)
      have hc256 := UInt8.toNat_lt l[k]
      have HZ : Hid (l[k] = 0 ↔ l[k].toNat = 0) := by show _ ↔ _; rw [← UInt8.toNat_inj]; rfl
      generalize l[k] = c at *
      by_cases hc0 : c.toNat = 0
      · have hcz := HZ.out.2 hc0
        subst hcz
        have hck' : wr.cell? ⟨b, off + k, none⟩ = some (.int .u8 0) := hck
        clear hck hc0 hc256 HZ
        by_cases hk1 : k + 1 < l.length
        · have hck1 := HC.out wr HB.out (k + 1) hk1
          have HD1 := hid (drop_cons hk1)
          have hd256 := UInt8.toNat_lt l[k + 1]
          have HZ1 : Hid (l[k + 1] = 1 ↔ l[k + 1].toNat = 1) := by show _ ↔ _; rw [← UInt8.toNat_inj]; rfl
          have HZ2 : Hid (l[k + 1] = 255 ↔ l[k + 1].toNat = 255) := by show _ ↔ _; rw [← UInt8.toNat_inj]; rfl
          generalize l[k + 1] = d at *
          have eo : off + (k + 1) = off + k + 1 := by omega
          have hke' : (((k : Int) + 1) == (l.length : Int)) = false := by simp; omega
          have HE : Hid (rdT [] 0 l = rdT acc k (0 :: d :: l.drop (k + 2))) := by show _ = _; rw [← HR.out, HD.out, HD1.out]
          clear HR HD HD1
          by_cases hd1 : d.toNat = 1
          · have hdz := HZ1.out.2 hd1
            subst hdz
            have hck1' : wr.cell? ⟨b, off + (k + 1), none⟩ = some (.int .u8 1) := hck1
            have HF : Hid (rdT [] 0 l = (acc, k + 2, 0)) := by show _ = _; rw [HE.out, rdT_end]
            have hcv := (Rd.own hown).conv (P := Try.prog) 27 9 5 Try.underlying27 Try.underlying5 Try.underlying9
            clear hck1 hd1 hd256 HZ1 HZ2
            rw [eo] at hck1'
            go_wp2_with fail
            go_ret3
            unfold Ans
            rw [HF.out]
            refine ⟨?_, HB.out⟩
            show Ending.returned (.tuple #[_, .int .i64 _, _]) = _
            first | rfl | (congr 4; omega) | (simp; omega)
          · by_cases hd2 : d.toNat = 255
            · have hdz := HZ2.out.2 hd2
              subst hdz
              have hck1' : wr.cell? ⟨b, off + (k + 1), none⟩ = some (.int .u8 255) := hck1
              rw [eo] at hck1'
              clear hck1 hd1 hd2 hd256 HZ1 HZ2
              go_wp2_with (first
                  | (at_builtin; refine wpList_append_own _ rfl _ _ 27 rfl w.heap.size 5 i0 (.int .u8 0) 1 1 Try.underlying27 hi hz0 hz1 hz2 rfl (by decide) _ _ _ rfl (hown.alloc _) ⟨wr.heap.size, 0, none⟩ 1 1 [bv 0] rfl rfl ?c1 ?c2 ?c3 ?c4 ?c5 ?_))
              case c1 => first | exact (cell_one_new _ _ _) | exact fun j u h => h
              case c2 => first | exact bv_one [_] | rfl
              case c3 => first | (unfold maxLen; omega) | (unfold maxLen; simp; omega)
              case c4 => first | omega | (simp; omega)
              case c5 => first | (have := HQ.out; omega) | (have := HQ.out; simp; omega)
              intro x2 w2 hown2 hg2 _
              obtain ⟨q1, q2⟩ := put_step (c := 0) HB.out (Nat.le_refl _) hown hown2 hg2
              have Q1 := hid q1
              have Q2 := hid q2
              have hlen2 := (Rd.own q1).len (P := Try.prog) 27 5
              have hl2 : (acc ++ [0]).length = acc.length + 1 := by simp
              rw [hl2] at hlen2
              clear hown2 hg2 hown q1 q2 hl2
              by_cases hbig : 20 < acc.length + 1
              · have HF : Hid (rdT [] 0 l = ([], 0, 9)) := by show _ = _; rw [HE.out, rdT_esc, if_pos hbig]
                go_wp2_with fail
                go_ret3
                unfold Ans
                rw [HF.out]
                exact ⟨rfl, Q2.out⟩
              · have HF : Hid (rdT [] 0 l = rdT (acc ++ [0]) (k + 2) (l.drop (k + 2))) := by show _ = _; rw [HE.out, rdT_esc, if_neg hbig]
                go_wp2_with fail
                go_roundw
                case rel => exact ⟨k + 2, acc ++ [0], by omega, by go_num, by simp; omega, HF.out.symm, Q1.out, Q2.out⟩
                case measure => simp [intOf]; omega
            · have h1 : d ≠ 1 := fun e => hd1 (HZ1.out.1 e)
              have h2' : d ≠ 255 := fun e => hd2 (HZ2.out.1 e)
              have HF : Hid (rdT [] 0 l = ([], 0, 9)) := by show _ = _; rw [HE.out, rdT_bad h1 h2']
              have hd1' : ¬ (d.toNat : Int) = 1 := by omega
              have hd2' : ¬ (d.toNat : Int) = 255 := by omega
              rw [eo] at hck1
              clear h1 h2' HZ1 HZ2
              go_wp2_with fail
              go_ret3
              unfold Ans
              rw [HF.out]
              exact ⟨rfl, HB.out⟩
        · have HF : Hid (rdT [] 0 l = ([], 0, 8)) := by
            show _ = _
            rw [← HR.out, HD.out, List.drop_eq_nil_of_le (by omega)]
            simp [rdT]
          have hke : k + 1 = l.length := by omega
          have hke' : (((k : Int) + 1) == (l.length : Int)) = true := by simp; omega
          go_wp2_with fail
          go_ret3
          unfold Ans
          rw [HF.out]
          exact ⟨rfl, HB.out⟩
      · have HE : Hid (rdT [] 0 l = rdT acc k (c :: l.drop (k + 1))) := by show _ = _; rw [← HR.out, HD.out]
        have HCZ : Hid (c ≠ 0) := fun e => hc0 (HZ.out.1 e)
        have hc1 : ¬ (c.toNat : Int) = 0 := by omega
        clear HR HD HZ hc0
        go_wp2_with (first
            | (at_builtin; refine wpList_append_own _ rfl _ _ 27 rfl w.heap.size 5 i0 (.int .u8 0) 1 1 Try.underlying27 hi hz0 hz1 hz2 rfl (by decide) _ _ _ rfl (hown.alloc _) ⟨wr.heap.size, 0, none⟩ 1 1 [bv c] rfl rfl ?c1 ?c2 ?c3 ?c4 ?c5 ?_))
        case c1 => first | exact (cell_one_new _ _ _) | exact fun j u h => h
        case c2 => first | exact bv_one [_] | rfl
        case c3 => first | (unfold maxLen; omega) | (unfold maxLen; simp; omega)
        case c4 => first | omega | (simp; omega)
        case c5 => first | (have := HQ.out; omega) | (have := HQ.out; simp; omega)
        intro x2 w2 hown2 hg2 _
        obtain ⟨q1, q2⟩ := put_step (c := c) HB.out (Nat.le_refl _) hown hown2 hg2
        have Q1 := hid q1
        have Q2 := hid q2
        have hlen2 := (Rd.own q1).len (P := Try.prog) 27 5
        have hl2 : (acc ++ [c]).length = acc.length + 1 := by simp
        rw [hl2] at hlen2
        clear hown2 hg2 hown q1 q2 hl2
        by_cases hbig : 20 < acc.length + 1
        · have HF : Hid (rdT [] 0 l = ([], 0, 9)) := by show _ = _; rw [HE.out, (rdT_c HCZ.out), if_pos hbig]
          go_wp2_with fail
          go_ret3
          unfold Ans
          rw [HF.out]
          exact ⟨rfl, Q2.out⟩
        · have HF : Hid (rdT [] 0 l = rdT (acc ++ [c]) (k + 1) (l.drop (k + 1))) := by show _ = _; rw [HE.out, (rdT_c HCZ.out), if_neg hbig]
          go_wp2_with fail
          go_roundw
          case rel => exact ⟨k + 1, acc ++ [c], by omega, by go_num, by simp; omega, HF.out.symm, Q1.out, Q2.out⟩
          case measure => simp [intOf]; omega
    · obtain rfl : k = l.length := by omega
      have HF : Hid (rdT [] 0 l = ([], 0, 8)) := by
        show _ = _
        rw [← HR.out, List.drop_length]
        rfl
      go_wp2_with fail
      go_ret3
      unfold Ans
      rw [HF.out]
      exact ⟨rfl, HB.out⟩
end Go.Proofs.Ytacmidfcocjdjaa
