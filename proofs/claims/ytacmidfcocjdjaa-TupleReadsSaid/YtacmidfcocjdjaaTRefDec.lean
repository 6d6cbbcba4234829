/-
  THE DOCUMENT's DEC.
-/
import Derived.Test.YtacmidfcocjdjaaTDec
namespace Go.Proofs.Ytacmidfcocjdjaa
open Go.RowKit

/-- What the document's Dec gives. -/
def RDecIs (l : List UInt8) (w : World) (e : Ending) (w' : World) : Prop :=
  ∃ y, e = .returned (.tuple #[y, .int .i64 (decE l)]) ∧ w'.ownsRow w.heap.size 24 3 y (decO l).length (cellsL (decO l)) ∧ Below w.heap.size w w'

theorem vstep {w W w4 : World} {acc : List Vl} {v : Vl} {x : Value} {y : Value} {o : Obj} (hb : Below w.heap.size w W) (hown : W.ownsRow w.heap.size 24 3 y acc.length (cellsL acc))
    (o4 : w4.ownsRow w.heap.size 24 3 x (acc.length + 1) (cellsL acc ++ cellsL [v])) (g4 : (W.alloc o).grownBy w4 y.ownBlock) :
    Hid (w4.ownsRow w.heap.size 24 3 x (acc ++ [v]).length (cellsL (acc ++ [v]))) ∧ Hid (Below w.heap.size w w4) :=
  ⟨by show World.ownsRow _ _ _ _ _ _ _; rw [cellsL_app, List.length_append]; exact o4, hb.trans (vown_below hown hb.size g4)⟩

theorem Vs.one_at {W : World} {v : Vl} {n : Nat} {t : TypeId} (h : n = W.heap.size) : Vs (W.alloc (.cells #[.int .i64 v.k, .int .i64 v.i, .string ⟨v.s.toArray⟩] t)) (.slice (some ⟨n, 0, none⟩) 1 1) [v] := by
  subst h; exact Vs.one (t := t) (heap_alloc_new _ _)

theorem three_frozen' {w : World} {b : Nat} {x y z : Value} {t : TypeId} (h : w.heap[b]? = some (.cells #[x, y, z] t (0, 0))) : w.frozen? ⟨b, 2, none⟩ = false := by simp [World.frozen?, h]

theorem drop_take_at {l : List UInt8} {k m : Nat} (h : k + 1 + m < l.length) : ∃ hh : m < (l.drop (k + 1)).length, (l.drop (k + 1))[m] = l[k + 1 + m] :=
  ⟨by rw [List.length_drop]; omega, by rw [List.getElem_drop]⟩

set_option maxHeartbeats 16000000 in
set_option maxRecDepth 100000 in
theorem rdec_any (x : Value) (l : List UInt8) (w : World) (hx : Rd w x l) (hl : l.length ≤ 900000) :
    Calls Try.prog 20 #[x] w (RDecIs l w) := by
  have hlen := hx.len (P := Try.prog) 27 5
  obtain ⟨i0, hi, hz0, hz1, hz2⟩ := info_parts Try.info_u8
  by_cases hl0 : l = []
  · subst hl0
    obtain ⟨ao, c, rfl, -⟩ := hx
    have HE := hid (dec_ok (l := []) (decA_nil []) (by simp))
    go_enter Try.func20, Try.ntmps20
    go_wp2_with fail
    refine wp_loop_rounds 1 ?_
    rw [rounds_succ]
    go_wp2_with fail
    go_ret2
    obtain ⟨h1, h2, -⟩ := HE.out
    unfold RDecIs
    rw [h1, h2]
    exact ⟨_, rfl, World.ownsRow_nil _ _ _ _, Below.refl _ _⟩
  obtain ⟨b, off, cp, rfl, h1, h2, hc⟩ := hx.at (List.length_pos_iff.2 hl0)
  unfold maxLen at h2
  have HC := hid (fun (wr : World) (hb : Below w.heap.size w wr) (k : Nat) (hk : k < l.length) => (by
    have := hc k hk
    rw [← this]
    exact hb.cell (p := ⟨b, off + k, none⟩) (World.block_lt_of_cell? w _ this) : wr.cell? ⟨b, off + k, none⟩ = some (.int .u8 ((l[k]).toNat : Int))))
  clear hc hx
  go_enter Try.func20, Try.ntmps20
  go_wp2_with fail
  go_loopw [4, 5] (fun y i wr => ∃ (k : Nat) (acc : List Vl), k ≤ l.length ∧ i = .int .i64 (k : Int) ∧ acc.length ≤ k ∧ decA acc (l.drop k) = decA [] l ∧ wr.ownsRow w.heap.size 24 3 y acc.length (cellsL acc) ∧ Below w.heap.size w wr) (fun _ i _ => l.length - (intOf i).toNat)
  case atStart => exact ⟨0, [], by omega, rfl, by simp, rfl, World.ownsRow_nil _ _ _ _, Below.refl _ _⟩
  case round =>
    obtain ⟨k, acc, hk, rfl, hak, hdec, hown, hb⟩ := hrel
    have HB := hid hb
    have HD := hid hdec
    have HO := hid hown
    have HQ : Hid (w.heap.size ≤ wr.heap.size) := hb.size
    clear hb hdec hown
    by_cases hlt : k < l.length
    · have hck := HC.out wr HB.out k hlt
      have hne : l.drop k ≠ [] := by intro e; have := congrArg List.length e; simp at this; omega
      have HDC := hid (drop_cons hlt)
      have HST := hid (fun v n (h : rdV (l.drop k) = (v, n, 0)) (hn : 1 ≤ n) => decA_step (acc := acc) hne h hn)
      have HER := hid (fun e (h : (rdV (l.drop k)).2.2 = e) (h0 : e ≠ 0) => decA_err (acc := acc) hne h h0)
      have hc256 := UInt8.toNat_lt l[k]
      have HZ : Hid (∀ d : UInt8, l[k] = d ↔ l[k].toNat = d.toNat) := fun d => by rw [← UInt8.toNat_inj]
      generalize l[k] = c at *
      clear hne
      by_cases c1 : c.toNat = 1
      · have hcz := (HZ.out 1).2 c1
        subst hcz
        have hck' : wr.cell? ⟨b, off + k, none⟩ = some (.int .u8 1) := hck
        have HF : Hid (rdV (l.drop k) = (⟨0, 0, []⟩, 1, 0)) := by show _ = _; rw [HDC.out]; rfl
        have HN : Hid (decA (acc ++ [⟨0, 0, []⟩]) (l.drop (k + 1)) = decA [] l) := by
          show _ = _
          have h1 := (HST.out _ _ HF.out (Nat.le_refl _)).symm.trans HD.out
          rw [List.drop_drop] at h1
          exact h1
        clear hck c1 hc256 HZ HDC HST HER HD HF
        have hao2 := hid ((HO.out.alloc (.cells #[.int .i64 0, .int .i64 0, .string ⟨#[]⟩] 24)).alloc (.cells #[.int .i64 0, .int .i64 0, .string ⟨#[]⟩] 24))
        have hv1 : Vs ((wr.alloc (.cells #[.int .i64 0, .int .i64 0, .string ⟨#[]⟩] 24)).alloc (.cells #[.int .i64 0, .int .i64 0, .string ⟨#[]⟩] 24)) (.slice (some ⟨wr.heap.size + 1, 0, none⟩) 1 1) [⟨0, 0, []⟩] := Vs.one_at (by simp)
        have HV1 := hid hv1
        clear hv1
        go_wp2_with (first
          | (at_builtin; refine wp_vapp rfl _ _ 22 rfl w.heap.size 24 Try.underlying22 _ info_val (by decide) _ _ _ rfl hao2.out _ [⟨0, 0, []⟩] rfl HV1.out ?c1 ?c2 ?_))
        case c1 => first | omega | (simp; omega)
        case c2 => first | (have := HQ.out; simp; omega) | (have := HBw.out.size; simp; omega) | (have := (HB.out.alloc HB.out.size (.cells #[.int .i64 0, .int .i64 0, .string ⟨#[]⟩] 24)).size; simp; omega)
        intro x4 w4 o4 g4
        obtain ⟨q1, q2⟩ := vstep (HB.out.alloc HB.out.size (.cells #[.int .i64 0, .int .i64 0, .string ⟨#[]⟩] 24)) ((HO.out.alloc (.cells #[.int .i64 0, .int .i64 0, .string ⟨#[]⟩] 24))) o4 g4
        clear o4 g4
        go_wp2_with fail
        go_roundw
        case rel => exact ⟨k + 1, acc ++ [⟨0, 0, []⟩], by omega, by go_num, by rw [List.length_append]; simp; omega, HN.out, q1.out, q2.out⟩
        case measure => simp [intOf]; omega
      · by_cases c2 : c.toNat = 2
        · have hcz := (HZ.out 2).2 c2
          subst hcz
          have hck' : wr.cell? ⟨b, off + k, none⟩ = some (.int .u8 2) := hck
          have B1 := HB.out.alloc HB.out.size (.cells #[.int .i64 1, .int .i64 0, .string ⟨#[]⟩] 24)
          have HB1 := hid B1
          clear hck c1 c2 hc256 HZ B1
          by_cases h8 : l.length < k + 9
          · have hrl : (l.drop (k + 1)).length < 8 := by rw [List.length_drop]; omega
            have HE := hid (dec_err (HD.out.symm.trans (HER.out 8 (by rw [HDC.out, rdV_cons, if_neg (by decide), if_pos rfl, if_pos hrl]) (by decide))) (by decide))
            clear hrl
            go_wp2_with fail
            go_ret2
            obtain ⟨h1, h2, h3⟩ := HE.out
            unfold RDecIs
            rw [h1, h2]
            exact ⟨_, rfl, World.ownsRow_nil _ _ _ _, HB.out.alloc HB.out.size _⟩
          · have hrl : ¬ (l.drop (k + 1)).length < 8 := by rw [List.length_drop]; omega
            have HRL := hid hrl
            have HF : Hid (rdV (l.drop k) = (⟨1, (rdB 0 ((l.drop (k + 1)).take 8) : Int) - 9223372036854775808, []⟩, 9, 0)) := by
              show _ = _
              rw [HDC.out, rdV_cons, if_neg (by decide), if_pos rfl, if_neg hrl]
            have HN : Hid (decA (acc ++ [⟨1, (rdB 0 ((l.drop (k + 1)).take 8) : Int) - 9223372036854775808, []⟩]) (l.drop (k + 9)) = decA [] l) := by
              show _ = _
              have h1 := (HST.out _ _ HF.out (by omega)).symm.trans HD.out
              rw [List.drop_drop] at h1
              exact h1
            have HLT8 := rdB_lt (l.drop (k + 1)) 8 (by omega)
            have HL8 := hid HLT8
            clear hrl HDC HST HER HD HF HLT8
            go_wp2_with fail
            go_loop [7, 8] (fun u j => ∃ m : Nat, m ≤ 8 ∧ j = .int .i64 m ∧ u = .int .u64 (rdB 0 ((l.drop (k + 1)).take m) : Nat)) (fun _ j => 8 - (intOf j).toNat)
            case atStart => exact ⟨0, by omega, rfl, rfl⟩
            case round =>
              obtain ⟨m, hm, rfl, rfl⟩ := hrel
              by_cases hlm : m < 8
              · have hj : k + 1 + m < l.length := by omega
                have hcj := HC.out _ HB1.out (k + 1 + m) hj
                obtain ⟨hh, hg⟩ := drop_take_at hj
                have HT0 := rdB_take hh
                rw [hg] at HT0
                have HT := hid HT0
                have hlt2 := rdB_lt (l.drop (k + 1)) m (by omega)
                have hp : 256 ^ m ≤ 256 ^ 7 := Nat.pow_le_pow_right (by decide) (by omega)
                have hc256 := UInt8.toNat_lt l[k + 1 + m]
                clear hg HT0 hh
                generalize rdB 0 ((l.drop (k + 1)).take m) = u at *
                generalize l[k + 1 + m] = c at *
                have hs := shl_or (u := u) (c := c.toNat) (by omega) hc256
                have e1 : IntKind.u64.wrap ((c.toNat : Nat) : Int) = ((c.toNat : Nat) : Int) := by rw [IntKind.wrap_u64]; omega
                clear hlt2 hp
                go_wp2_with fail
                go_round
                case rel => exact ⟨m + 1, by omega, by go_num, by rw [HT.out]; simp⟩
                case measure => simp [intOf]; omega
              · obtain rfl : m = 8 := by omega
                have hs := sign_out (u := rdB 0 ((l.drop (k + 1)).take 8)) (by have := HL8.out; omega)
                have hao2 := hid ((HO.out.alloc (.cells #[.int .i64 1, .int .i64 (((rdB 0 ((l.drop (k + 1)).take 8) : Nat) : Int) - 9223372036854775808), .string ⟨#[]⟩] 24)).alloc (.cells #[.int .i64 1, .int .i64 (((rdB 0 ((l.drop (k + 1)).take 8) : Nat) : Int) - 9223372036854775808), .string ⟨#[]⟩] 24))
                have hv1 : Vs ((wr.alloc (.cells #[.int .i64 1, .int .i64 (((rdB 0 ((l.drop (k + 1)).take 8) : Nat) : Int) - 9223372036854775808), .string ⟨#[]⟩] 24)).alloc (.cells #[.int .i64 1, .int .i64 (((rdB 0 ((l.drop (k + 1)).take 8) : Nat) : Int) - 9223372036854775808), .string ⟨#[]⟩] 24)) (.slice (some ⟨wr.heap.size + 1, 0, none⟩) 1 1) [⟨1, ((rdB 0 ((l.drop (k + 1)).take 8) : Nat) : Int) - 9223372036854775808, []⟩] := Vs.one_at (by simp)
                have HV1 := hid hv1
                clear hv1
                go_wp2_with (first
                  | (at_builtin; refine wp_vapp rfl _ _ 22 rfl w.heap.size 24 Try.underlying22 _ info_val (by decide) _ _ _ rfl hao2.out _ [⟨1, ((rdB 0 ((l.drop (k + 1)).take 8) : Nat) : Int) - 9223372036854775808, []⟩] rfl HV1.out ?c1 ?c2 ?_))
                case c1 => first | omega | (simp; omega)
                case c2 => first | (have := HQ.out; simp; omega) | (have := HBw.out.size; simp; omega) | (have := (HB.out.alloc HB.out.size (.cells #[.int .i64 1, .int .i64 (((rdB 0 ((l.drop (k + 1)).take 8) : Nat) : Int) - 9223372036854775808), .string ⟨#[]⟩] 24)).size; simp; omega)
                intro x4 w4 o4 g4
                obtain ⟨q1, q2⟩ := vstep (HB.out.alloc HB.out.size (.cells #[.int .i64 1, .int .i64 (((rdB 0 ((l.drop (k + 1)).take 8) : Nat) : Int) - 9223372036854775808), .string ⟨#[]⟩] 24)) ((HO.out.alloc (.cells #[.int .i64 1, .int .i64 (((rdB 0 ((l.drop (k + 1)).take 8) : Nat) : Int) - 9223372036854775808), .string ⟨#[]⟩] 24))) o4 g4
                clear o4 g4
                go_wp2_with fail
                go_roundw
                case rel => exact ⟨k + 9, acc ++ [⟨1, ((rdB 0 ((l.drop (k + 1)).take 8) : Nat) : Int) - 9223372036854775808, []⟩], by omega, by go_num, by rw [List.length_append]; simp; omega, HN.out, q1.out, q2.out⟩
                case measure => simp [intOf]; omega
        · by_cases c3 : c.toNat = 3
          · have hcz := (HZ.out 3).2 c3
            subst hcz
            have hck' : wr.cell? ⟨b, off + k, none⟩ = some (.int .u8 3) := hck
            have HF0 : Hid (rdV (l.drop k) = (⟨2, 0, (rdT [] 0 (l.drop (k + 1))).1⟩, 1 + (rdT [] 0 (l.drop (k + 1))).2.1, (rdT [] 0 (l.drop (k + 1))).2.2)) := by
              show _ = _
              rw [HDC.out, rdV_cons, if_neg (by decide), if_neg (by decide), if_pos rfl]
            have HERT : Hid (∀ e : Int, e ≠ 0 → (rdT [] 0 (l.drop (k + 1))).2.2 = e → decE l = e ∧ decO l = [] ∧ decN l = 0) := fun e he h =>
              dec_err (HD.out.symm.trans (HER.out e (by rw [HF0.out]; exact h) he)) he
            have HNT : Hid (∀ (t : List UInt8) (u : Nat), rdT [] 0 (l.drop (k + 1)) = (t, u, 0) → decA (acc ++ [⟨2, 0, t⟩]) (l.drop (k + (1 + u))) = decA [] l) := fun t u h => by
              have hf := HF0.out
              rw [h] at hf
              have h1 := (HST.out _ _ hf (by omega)).symm.trans HD.out
              rw [List.drop_drop] at h1
              exact h1
            have hYB : Hid (∀ kk, u4.ownBlock = some kk → kk < wr.heap.size) := fun kk hk => (HO.out.lt kk hk).2
            have HW1 := hid (HB.out.alloc HB.out.size (.cells #[.int .i64 2, .int .i64 0, .string ⟨#[]⟩] 24))
            have HO1 := hid (HO.out.alloc (.cells #[.int .i64 2, .int .i64 0, .string ⟨#[]⟩] 24))
            have HG1 : Hid ((wr.alloc (.cells #[.int .i64 2, .int .i64 0, .string ⟨#[]⟩] 24)).heap[wr.heap.size]? = some (.cells #[.int .i64 2, .int .i64 0, .string ⟨#[]⟩] 24 (0, 0))) := heap_alloc_new _ _
            clear hck c1 c2 c3 hc256 HZ HDC HST HER HD HF0 HO
            go_wp2_with fail
            generalize wr.alloc (.cells #[.int .i64 2, .int .i64 0, .string ⟨#[]⟩] 24) = W1 at *
            generalize wr.heap.size = g at *
            clear hck' HB
            have HGL : Hid (g < W1.heap.size) := lt_of_block HG1.out
            go_loopw [5, 9] (fun i y wi => ∃ (p : Nat) (sa : List UInt8), k + 1 ≤ p ∧ p ≤ l.length ∧ i = .int .i64 (p : Int) ∧ sa.length ≤ 20 ∧ rdT sa (p - (k + 1)) (l.drop p) = rdT [] 0 (l.drop (k + 1)) ∧ wi.ownsRow W1.heap.size 5 1 y sa.length (sa.map bv) ∧ Below W1.heap.size W1 wi) (fun i _ _ => l.length - (intOf i).toNat)
            case atStart => exact ⟨k + 1, [], by omega, by omega, by go_num, by simp, by rw [Nat.sub_self], World.ownsRow_nil _ _ _ _, Below.refl _ _⟩
            case round =>
              obtain ⟨p, sa, hp1, hp2, rfl, hsl, hrd, hown, hbi⟩ := hrel
              have HXi := hid hbi
              have HR := hid hrd
              have HBw := hid (HW1.out.trans (hbi.mono HW1.out.size))
              have HGi : Hid (wr.heap[g]? = some (.cells #[.int .i64 2, .int .i64 0, .string ⟨#[]⟩] 24 (0, 0))) := (hbi.block g HGL.out).trans HG1.out
              have HOi := hid (vown_old HO1.out hbi)
              clear hbi hrd
              by_cases hpl : p < l.length
              · have hpe : ((p : Int) == (l.length : Int)) = false := beq_eq_false_iff_ne.2 (by omega)
                have hck := HC.out wr HBw.out p hpl
                have HD := hid (drop_cons hpl)
                have hc256 := UInt8.toNat_lt l[p]
                have HZ : Hid (l[p] = 0 ↔ l[p].toNat = 0) := by show _ ↔ _; rw [← UInt8.toNat_inj]; rfl
                generalize l[p] = c at *
                by_cases hc0 : c.toNat = 0
                · have hcz := HZ.out.2 hc0
                  subst hcz
                  have hck' : wr.cell? ⟨b, off + p, none⟩ = some (.int .u8 0) := hck
                  clear hck hc0 hc256 HZ
                  by_cases hk1 : p + 1 < l.length
                  · have hck1 := HC.out wr HBw.out (p + 1) hk1
                    have HD1 := hid (drop_cons hk1)
                    have hd256 := UInt8.toNat_lt l[p + 1]
                    have HZ1 : Hid (l[p + 1] = 1 ↔ l[p + 1].toNat = 1) := by show _ ↔ _; rw [← UInt8.toNat_inj]; rfl
                    have HZ2 : Hid (l[p + 1] = 255 ↔ l[p + 1].toNat = 255) := by show _ ↔ _; rw [← UInt8.toNat_inj]; rfl
                    generalize l[p + 1] = d at *
                    have eo : off + (p + 1) = off + p + 1 := by omega
                    have hke' : (((p : Int) + 1) == (l.length : Int)) = false := beq_eq_false_iff_ne.2 (by omega)
                    have HE : Hid (rdT [] 0 (l.drop (k + 1)) = rdT sa (p - (k + 1)) (0 :: d :: l.drop (p + 2))) := by show _ = _; rw [← HR.out, HD.out, HD1.out]
                    clear HR HD HD1
                    by_cases hd1 : d.toNat = 1
                    · have hdz := HZ1.out.2 hd1
                      subst hdz
                      have hck1' : wr.cell? ⟨b, off + (p + 1), none⟩ = some (.int .u8 1) := hck1
                      have HF : Hid (rdT [] 0 (l.drop (k + 1)) = (sa, p - (k + 1) + 2, 0)) := by show _ = _; rw [HE.out, rdT_end]
                      have hcv := (Rd.own hown).conv (P := Try.prog) 27 9 5 Try.underlying27 Try.underlying5 Try.underlying9
                      have HN0 := HNT.out _ _ HF.out
                      have ek : k + (1 + (p - (k + 1) + 2)) = p + 2 := by omega
                      rw [ek] at HN0
                      have HN := hid HN0
                      clear hck1 hd1 hd256 HZ1 HZ2 HN0 ek
                      rw [eo] at hck1'
                      obtain ⟨e1, e2, e3⟩ := three_cells HGi.out
                      obtain ⟨f1, f2, f3⟩ : wr.frozen? ⟨g, 0, none⟩ = false ∧ wr.frozen? ⟨g, 1, none⟩ = false ∧ wr.frozen? ⟨g, 2, none⟩ = false := three_frozen HGi.out
                      have HS3 : Hid ((wr.setCell ⟨g, 2, none⟩ (.string ⟨sa.toArray⟩)).heap[g]? = some (.cells #[.int .i64 2, .int .i64 0, .string ⟨sa.toArray⟩] 24 (0, 0))) := heap_setCell_same _ g 2 _ _ _ HGi.out
                      obtain ⟨k1, k2, k3⟩ := three_cells HS3.out
                      have HB3 := hid (HBw.out.grown (grown_set wr ⟨g, 2, none⟩ (.string ⟨sa.toArray⟩)) HBw.out.size (fun kk hk => by cases hk; exact HQ.out))
                      have HO3 := hid (HOi.out.kept (grown_set wr ⟨g, 2, none⟩ (.string ⟨sa.toArray⟩)) (by
                        cases hob : u4.ownBlock with
                        | none => exact .inl rfl
                        | some kk =>
                          right
                          intro h
                          have h1 := hYB.out kk hob
                          simp only [Option.some.injEq] at h
                          omega))
                      have hao2 := hid (HO3.out.alloc (.cells #[.int .i64 2, .int .i64 0, .string ⟨sa.toArray⟩] 24))
                      have hv1 : Vs ((wr.setCell ⟨g, 2, none⟩ (.string ⟨sa.toArray⟩)).alloc (.cells #[.int .i64 2, .int .i64 0, .string ⟨sa.toArray⟩] 24)) (.slice (some ⟨wr.heap.size, 0, none⟩) 1 1) [⟨2, 0, sa⟩] := Vs.one_at (by simp)
                      have HV1 := hid hv1
                      clear hv1
                      go_wp2_with (first
                        | (at_builtin; refine wp_vapp rfl _ _ 22 rfl w.heap.size 24 Try.underlying22 _ info_val (by decide) _ _ _ rfl hao2.out _ [⟨2, 0, sa⟩] rfl HV1.out ?c1 ?c2 ?_))
                      case c1 => first | omega | (simp; omega)
                      case c2 => first | (have := HQ.out; simp; omega) | (have := HBw.out.size; simp; omega) | (have := (HB3.out).size; simp; omega)
                      intro x4 w4 o4 g4
                      obtain ⟨q1, q2⟩ := vstep (HB3.out) (HO3.out) o4 g4
                      clear o4 g4
                      go_wp2_with fail
                      go_roundw
                      case rel => exact ⟨p + 2, acc ++ [⟨2, 0, sa⟩], by omega, by go_num, by rw [List.length_append]; simp; omega, HN.out, q1.out, q2.out⟩
                      case measure => simp [intOf]; omega
                    · by_cases hd2 : d.toNat = 255
                      · have hdz := HZ2.out.2 hd2
                        subst hdz
                        have hck1' : wr.cell? ⟨b, off + (p + 1), none⟩ = some (.int .u8 255) := hck1
                        rw [eo] at hck1'
                        clear hck1 hd1 hd2 hd256 HZ1 HZ2
                        go_wp2_with (first
                          | (at_builtin; refine wpList_append_own _ rfl _ _ 27 rfl W1.heap.size 5 i0 (.int .u8 0) 1 1 Try.underlying27 hi hz0 hz1 hz2 rfl (by decide) _ _ _ rfl (hown.alloc _) ⟨wr.heap.size, 0, none⟩ 1 1 [bv 0] rfl rfl ?c1 ?c2 ?c3 ?c4 ?c5 ?_))
                        case c1 => first | exact (cell_one_new _ _ _) | exact fun j u h => h
                        case c2 => first | exact bv_one [_] | rfl
                        case c3 => first | (unfold maxLen; omega) | (unfold maxLen; simp; omega)
                        case c4 => first | omega | (simp; omega)
                        case c5 => first | (have := HXi.out.size; omega) | (have := HXi.out.size; simp; omega)
                        intro x2 w2 hown2 hg2 _
                        obtain ⟨q1, q2⟩ := put_step (c := 0) HXi.out (Nat.le_refl _) hown hown2 hg2
                        have Q1 := hid q1
                        have Q2 := hid q2
                        have QW := hid (HW1.out.trans (q2.mono HW1.out.size))
                        have hlen2 := (Rd.own q1).len (P := Try.prog) 27 5
                        have hl2 : (sa ++ [0]).length = sa.length + 1 := by simp
                        rw [hl2] at hlen2
                        clear hown2 hg2 hown q1 q2 hl2
                        by_cases hbig : 20 < sa.length + 1
                        · have HF : Hid (rdT [] 0 (l.drop (k + 1)) = ([], 0, 9)) := by show _ = _; rw [HE.out, rdT_esc, if_pos hbig]
                          have HE := hid (HERT.out 9 (by decide) (by rw [HF.out]))
                          go_wp2_with fail
                          go_ret2
                          obtain ⟨h1, h2, h3⟩ := HE.out
                          unfold RDecIs
                          rw [h1, h2]
                          exact ⟨_, rfl, World.ownsRow_nil _ _ _ _, QW.out⟩
                        · have HF : Hid (rdT (sa ++ [0]) (p + 2 - (k + 1)) (l.drop (p + 2)) = rdT [] 0 (l.drop (k + 1))) := by
                            show _ = _
                            rw [HE.out, rdT_esc, if_neg hbig]
                            rw [show p - (k + 1) + 2 = p + 2 - (k + 1) by omega]
                          go_wp2_with fail
                          go_roundw
                          case rel => exact ⟨p + 2, sa ++ [0], by omega, by omega, by go_num, by simp; omega, HF.out, Q1.out, Q2.out⟩
                          case measure => simp [intOf]; omega
                      · have h1 : d ≠ 1 := fun e => hd1 (HZ1.out.1 e)
                        have h2' : d ≠ 255 := fun e => hd2 (HZ2.out.1 e)
                        have HF : Hid (rdT [] 0 (l.drop (k + 1)) = ([], 0, 9)) := by show _ = _; rw [HE.out, rdT_bad h1 h2']
                        have hd1' : ¬ (d.toNat : Int) = 1 := by omega
                        have hd2' : ¬ (d.toNat : Int) = 255 := by omega
                        rw [eo] at hck1
                        clear h1 h2' HZ1 HZ2 HE
                        have HE := hid (HERT.out 9 (by decide) (by rw [HF.out]))
                        go_wp2_with fail
                        go_ret2
                        obtain ⟨h1, h2, h3⟩ := HE.out
                        unfold RDecIs
                        rw [h1, h2]
                        exact ⟨_, rfl, World.ownsRow_nil _ _ _ _, HBw.out⟩
                  · have HF : Hid (rdT [] 0 (l.drop (k + 1)) = ([], 0, 8)) := by
                      show _ = _
                      rw [← HR.out, HD.out, List.drop_eq_nil_of_le (by omega)]
                      simp [rdT]
                    have hke' : (((p : Int) + 1) == (l.length : Int)) = true := by simp; omega
                    have HE := hid (HERT.out 8 (by decide) (by rw [HF.out]))
                    go_wp2_with fail
                    go_ret2
                    obtain ⟨h1, h2, h3⟩ := HE.out
                    unfold RDecIs
                    rw [h1, h2]
                    exact ⟨_, rfl, World.ownsRow_nil _ _ _ _, HBw.out⟩
                · have HE : Hid (rdT [] 0 (l.drop (k + 1)) = rdT sa (p - (k + 1)) (c :: l.drop (p + 1))) := by show _ = _; rw [← HR.out, HD.out]
                  have HCZ : Hid (c ≠ 0) := fun e => hc0 (HZ.out.1 e)
                  have hc1 : ¬ (c.toNat : Int) = 0 := by omega
                  clear HR HD HZ hc0
                  go_wp2_with (first
                    | (at_builtin; refine wpList_append_own _ rfl _ _ 27 rfl W1.heap.size 5 i0 (.int .u8 0) 1 1 Try.underlying27 hi hz0 hz1 hz2 rfl (by decide) _ _ _ rfl (hown.alloc _) ⟨wr.heap.size, 0, none⟩ 1 1 [bv c] rfl rfl ?c1 ?c2 ?c3 ?c4 ?c5 ?_))
                  case c1 => first | exact (cell_one_new _ _ _) | exact fun j u h => h
                  case c2 => first | exact bv_one [_] | rfl
                  case c3 => first | (unfold maxLen; omega) | (unfold maxLen; simp; omega)
                  case c4 => first | omega | (simp; omega)
                  case c5 => first | (have := HXi.out.size; omega) | (have := HXi.out.size; simp; omega)
                  intro x2 w2 hown2 hg2 _
                  obtain ⟨q1, q2⟩ := put_step (c := c) HXi.out (Nat.le_refl _) hown hown2 hg2
                  have Q1 := hid q1
                  have Q2 := hid q2
                  have QW := hid (HW1.out.trans (q2.mono HW1.out.size))
                  have hlen2 := (Rd.own q1).len (P := Try.prog) 27 5
                  have hl2 : (sa ++ [c]).length = sa.length + 1 := by simp
                  rw [hl2] at hlen2
                  clear hown2 hg2 hown q1 q2 hl2
                  by_cases hbig : 20 < sa.length + 1
                  · have HF : Hid (rdT [] 0 (l.drop (k + 1)) = ([], 0, 9)) := by show _ = _; rw [HE.out, (rdT_c HCZ.out), if_pos hbig]
                    have HE := hid (HERT.out 9 (by decide) (by rw [HF.out]))
                    go_wp2_with fail
                    go_ret2
                    obtain ⟨h1, h2, h3⟩ := HE.out
                    unfold RDecIs
                    rw [h1, h2]
                    exact ⟨_, rfl, World.ownsRow_nil _ _ _ _, QW.out⟩
                  · have HF : Hid (rdT (sa ++ [c]) (p + 1 - (k + 1)) (l.drop (p + 1)) = rdT [] 0 (l.drop (k + 1))) := by
                      show _ = _
                      rw [HE.out, (rdT_c HCZ.out), if_neg hbig]
                      rw [show p - (k + 1) + 1 = p + 1 - (k + 1) by omega]
                    go_wp2_with fail
                    go_roundw
                    case rel => exact ⟨p + 1, sa ++ [c], by omega, by omega, by go_num, by simp; omega, HF.out, Q1.out, Q2.out⟩
                    case measure => simp [intOf]; omega
              · obtain rfl : p = l.length := by omega
                have HF : Hid (rdT [] 0 (l.drop (k + 1)) = ([], 0, 8)) := by
                  show _ = _
                  rw [← HR.out, List.drop_length]
                  rfl
                have hpe : ((l.length : Int) == (l.length : Int)) = true := by simp
                have HE := hid (HERT.out 8 (by decide) (by rw [HF.out]))
                go_wp2_with fail
                go_ret2
                obtain ⟨h1, h2, h3⟩ := HE.out
                unfold RDecIs
                rw [h1, h2]
                exact ⟨_, rfl, World.ownsRow_nil _ _ _ _, HBw.out⟩
          · have q1 : ¬ (c.toNat : Int) = 1 := by omega
            have q2 : ¬ (c.toNat : Int) = 2 := by omega
            have q3 : ¬ (c.toNat : Int) = 3 := by omega
            have HE := hid (dec_err (HD.out.symm.trans (HER.out 9 (by rw [HDC.out, rdV_cons, if_neg (fun e => c1 ((HZ.out 1).1 e)), if_neg (fun e => c2 ((HZ.out 2).1 e)), if_neg (fun e => c3 ((HZ.out 3).1 e))]) (by decide))) (by decide))
            clear HZ HDC HST HER HD
            by_cases hz : c.toNat = 0
            · have hck' : wr.cell? ⟨b, off + k, none⟩ = some (.int .u8 0) := by rw [hck, hz]; rfl
              clear hck
              go_wp2_with fail
              go_ret2
              obtain ⟨h1, h2, h3⟩ := HE.out
              unfold RDecIs
              rw [h1, h2]
              exact ⟨_, rfl, World.ownsRow_nil _ _ _ _, HB.out.alloc HB.out.size _⟩
            · have hz2 : (2 : Int) < (c.toNat : Int) - 1 := by omega
              go_wp2_with fail
              go_ret2
              obtain ⟨h1, h2, h3⟩ := HE.out
              unfold RDecIs
              rw [h1, h2]
              exact ⟨_, rfl, World.ownsRow_nil _ _ _ _, HB.out.alloc HB.out.size _⟩
    · obtain rfl : k = l.length := by omega
      have HF : Hid (decA [] l = (acc, 0)) := by show _ = _; rw [← HD.out, List.drop_length, decA_nil]
      have hleny := (Vs.own HO.out).len (P := Try.prog) 22 24
      by_cases h16 : 16 < acc.length
      · have HE := hid (dec_long HF.out h16)
        go_wp2_with fail
        go_ret2
        obtain ⟨h1, h2, h3⟩ := HE.out
        unfold RDecIs
        rw [h1, h2]
        exact ⟨_, rfl, World.ownsRow_nil _ _ _ _, HB.out⟩
      · have HE := hid (dec_ok HF.out h16)
        go_wp2_with fail
        go_ret2
        obtain ⟨h1, h2, h3⟩ := HE.out
        unfold RDecIs
        rw [h1, h2]
        exact ⟨_, rfl, HO.out, HB.out⟩
end Go.Proofs.Ytacmidfcocjdjaa
