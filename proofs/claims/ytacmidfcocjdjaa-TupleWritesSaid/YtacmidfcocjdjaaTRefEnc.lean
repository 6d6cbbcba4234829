/-
  THE DOCUMENT's ENC.
-/
import Derived.Test.YtacmidfcocjdjaaTEnc
namespace Go.Proofs.Ytacmidfcocjdjaa
open Go.RowKit

theorem rstep {w wr w1 : World} {base : Nat} {acc : List UInt8} {x x' : Value} {o : Obj} {c : UInt8} (hb : base ≤ w.heap.size) (hbb : Below base w wr) (hown : wr.ownsRow base 5 1 x acc.length (acc.map bv))
    (hown' : w1.ownsRow base 5 1 x' (acc.length + 1) (acc.map bv ++ [bv c])) (hg : (wr.alloc o).grownBy w1 x.ownBlock) :
    Hid (w1.ownsRow base 5 1 x' (acc ++ [c]).length ((acc ++ [c]).map bv)) ∧ Hid (Below base w w1) := put_step hbb hb hown hown' hg

set_option maxHeartbeats 4000000 in
set_option maxRecDepth 100000 in
theorem rbytes_any (x : Value) (l : List Vl) (w : World) (hx : Vs w x l) (hin : ∀ v ∈ l, inV v) (hok : ∀ v ∈ l, okV v) (hl : l.length ≤ 16) :
    Calls Try.prog 32 #[x] w (Gives 5 w (encL l)) := by
  obtain ⟨i0, hi, hz0, hz1, hz2⟩ := info_parts Try.info_u8
  obtain ⟨ao, c, rfl, -⟩ := hx.form
  have HX := hid hx
  have HI := hid hin
  have HK := hid hok
  clear hx hin hok
  go_enter Try.func32, Try.ntmps32
  go_wp2_with fail
  go_loopw [3, 4] (fun y i wr => ∃ k, k ≤ l.length ∧ i = .int .i64 (k : Int) ∧ wr.ownsRow w.heap.size 5 1 y (encL (l.take k)).length ((encL (l.take k)).map bv) ∧ Below w.heap.size w wr) (fun _ i _ => l.length - (intOf i).toNat)
  case atStart => exact ⟨0, by omega, rfl, World.ownsRow_nil _ _ _ _, Below.refl _ _⟩
  case round =>
    obtain ⟨k, hk, rfl, hown, hb⟩ := hrel
    have HB := hid hb
    clear hb
    by_cases hlt : k < l.length
    · have hv := List.getElem?_eq_getElem hlt
      have hmem := List.mem_of_getElem? hv
      generalize l[k] = v at *
      have hok := HK.out v hmem
      have hin := HI.out v hmem
      obtain ⟨b, off, rfl, d1, d2, d3⟩ := (HX.out.old HB.out).get hv
      have hlen : (encL (l.take k)).length ≤ 90000 := by
        have := encL_len (l := l.take k) (fun u hu => HK.out u (List.mem_of_mem_take hu))
        rw [List.length_take] at this
        omega
      have HE := hid (encL_take hv)
      have HV := hid hv
      have hss : v.k = 2 → v.s.length ≤ 20 := fun h => by rcases hok with ⟨h1, -⟩ | ⟨h1, -⟩ | ⟨-, -, h2⟩; omega; omega; exact h2
      have hkk : v.k = 0 ∨ v.k = 1 ∨ v.k = 2 := by rcases hok with ⟨h, -⟩ | ⟨h, -⟩ | ⟨h, -⟩ <;> simp [h]
      have HIN := hid hin
      have HSS := hid hss
      have HBW : Hid (w.heap.size ≤ wr.heap.size) := HB.out.size
      clear hv hmem hok hin hss
      obtain ⟨vk, vi, vs⟩ := v
      simp only at d1 d2 d3 hkk
      generalize hacc : encL (l.take k) = acc at *
      have HOWN := hid hown
      rcases hkk with rfl | rfl | rfl
      · go_wp2_with (first
            | (at_builtin; refine wpList_append_own _ rfl _ _ 27 rfl w.heap.size 5 i0 (.int .u8 0) 1 1 Try.underlying27 hi hz0 hz1 hz2 rfl (by decide) _ _ _ rfl (hown.alloc _) ⟨wr.heap.size, 0, none⟩ 1 1 [bv 1] rfl rfl ?c1 ?c2 ?c3 ?c4 ?c5 ?_))
        case c1 => first | exact (cell_one_new _ _ _) | exact (cells_two_new _ _ _ _) | exact fun j u h => h
        case c2 => first | exact bv_one _ | rfl | (intro u hu; simp at hu; rcases hu with rfl | rfl <;> rfl)
        case c3 => first | (unfold maxLen; omega) | (unfold maxLen; simp; omega)
        case c4 => first | omega | (simp; omega)
        case c5 => first | (have := HBW.out; omega) | (have := HBW.out; simp; omega)
        intro x1 w1 hown1 hg1 _
        obtain ⟨R1, R2⟩ := rstep (c := 1) (Nat.le_refl _) HB.out hown hown1 hg1
        obtain ⟨b2, off2, hbo, e1, e2, e3⟩ := (HX.out.old R2.out).get HV.out
        simp only [Option.some.injEq, Addr.mk.injEq, and_true] at hbo
        obtain ⟨rfl, rfl⟩ := hbo
        simp only at e1 e2 e3
        clear hown1 hg1 hown d1 d2 d3
        go_wp2_with fail
        go_roundw
        case rel => exact ⟨k + 1, by omega, by go_num, by rw [HE.out]; exact R1.out, R2.out⟩
        case measure => simp [intOf]; omega
      · go_wp2_with (first
            | (at_builtin; refine wpList_append_own _ rfl _ _ 27 rfl w.heap.size 5 i0 (.int .u8 0) 1 1 Try.underlying27 hi hz0 hz1 hz2 rfl (by decide) _ _ _ rfl (hown.alloc _) ⟨wr.heap.size, 0, none⟩ 1 1 [bv 2] rfl rfl ?c1 ?c2 ?c3 ?c4 ?c5 ?_))
        case c1 => first | exact (cell_one_new _ _ _) | exact (cells_two_new _ _ _ _) | exact fun j u h => h
        case c2 => first | exact bv_one _ | rfl | (intro u hu; simp at hu; rcases hu with rfl | rfl <;> rfl)
        case c3 => first | (unfold maxLen; omega) | (unfold maxLen; simp; omega)
        case c4 => first | omega | (simp; omega)
        case c5 => first | (have := HBW.out; omega) | (have := HBW.out; simp; omega)
        intro x1 w1 hown1 hg1 _
        obtain ⟨R1, R2⟩ := rstep (c := 2) (Nat.le_refl _) HB.out hown hown1 hg1
        obtain ⟨b2, off2, hbo, e1, e2, e3⟩ := (HX.out.old R2.out).get HV.out
        simp only [Option.some.injEq, Addr.mk.injEq, and_true] at hbo
        obtain ⟨rfl, rfl⟩ := hbo
        simp only at e1 e2 e3
        clear hown1 hg1 hown d1 d2 d3
        have hin := HIN.out
        unfold inV at hin
        simp only at hin
        have hs := sign_in hin.1 hin.2
        have hu : (vi + 9223372036854775808).toNat < 18446744073709551616 := by omega
        have HVAL : Hid (valB ⟨1, vi, vs⟩ = 2 :: be 8 (vi + 9223372036854775808).toNat) := rfl
        generalize (vi + 9223372036854775808).toNat = u at *
        have HU := hid hu
        clear hin hu
        go_wp2_with fail
        clear hs
        go_loopw [3, 6] (fun y j wi => ∃ (m : Nat) (a2 : List UInt8), m ≤ 8 ∧ j = .int .i64 ((m : Int) - 1) ∧ a2 ++ be m u = acc ++ valB ⟨1, vi, vs⟩ ∧ wi.ownsRow w.heap.size 5 1 y a2.length (a2.map bv) ∧ Below w.heap.size w wi)
          (fun _ j _ => (intOf j + 1).toNat)
        case atStart => exact ⟨8, acc ++ [2], by omega, rfl, by rw [HVAL.out]; simp, R1.out, R2.out⟩
        case round =>
          obtain ⟨m, a2, hm, rfl, ha2, hown2, hb2⟩ := hrel
          have HA2 := hid ha2
          have hal : a2.length ≤ 90100 := by
            have := congrArg List.length ha2
            rw [HVAL.out] at this
            simp only [List.length_append, List.length_cons, be_len] at this
            omega
          have HB2 := hid hb2
          clear ha2 hb2
          cases m with
          | zero =>
            have HO2 := hid hown2
            clear hown2 hal
            go_wp2_with fail
            go_roundw
            case rel => exact ⟨k + 1, by omega, by go_num, by rw [HE.out, ← HA2.out]; simpa [be] using HO2.out, HB2.out⟩
            case measure => simp [intOf]; omega
          | succ m =>
            have e1 : ((m + 1 : Nat) : Int) - 1 = (m : Int) := by omega
            rw [e1]
            have hm8 : m < 8 := by omega
            have HQ : Hid (w.heap.size ≤ wr.heap.size) := HB2.out.size
            go_wp2_with (first
                | (at_builtin; refine wpList_append_own _ rfl _ _ 27 rfl w.heap.size 5 i0 (.int .u8 0) 1 1 Try.underlying27 hi hz0 hz1 hz2 rfl (by decide) _ _ _ rfl (hown2.alloc _) ⟨wr.heap.size, 0, none⟩ 1 1 [bv (UInt8.ofNat (u / 256 ^ m))] rfl rfl ?c1 ?c2 ?c3 ?c4 ?c5 ?_))
            case c1 => first | (rw [← byte_at]; exact (cell_one_new _ _ _)) | exact (cells_two_new _ _ _ _) | exact fun j u h => h
            case c2 => first | exact bv_one _ | rfl | (intro u hu; simp at hu; rcases hu with rfl | rfl <;> rfl)
            case c3 => first | (unfold maxLen; omega) | (unfold maxLen; simp; omega)
            case c4 => first | omega | (simp; omega)
            case c5 => first | (have := HQ.out; omega) | (have := HQ.out; simp; omega)
            intro x2 w2 hown3 hg3 _
            obtain ⟨q1, q2⟩ := rstep (Nat.le_refl _) HB2.out hown2 hown3 hg3
            have HN := hid (by rw [← HA2.out]; simp [be] : (a2 ++ [UInt8.ofNat (u / 256 ^ m)]) ++ be m u = acc ++ valB ⟨1, vi, vs⟩)
            clear hown3 hg3 hown2
            go_wp2_with fail
            go_roundw
            case rel => exact ⟨m, a2 ++ [UInt8.ofNat (u / 256 ^ m)], by omega, by go_num, HN.out, q1.out, q2.out⟩
            case measure => simp [intOf]
      · go_wp2_with (first
            | (at_builtin; refine wpList_append_own _ rfl _ _ 27 rfl w.heap.size 5 i0 (.int .u8 0) 1 1 Try.underlying27 hi hz0 hz1 hz2 rfl (by decide) _ _ _ rfl (hown.alloc _) ⟨wr.heap.size, 0, none⟩ 1 1 [bv 3] rfl rfl ?c1 ?c2 ?c3 ?c4 ?c5 ?_))
        case c1 => first | exact (cell_one_new _ _ _) | exact (cells_two_new _ _ _ _) | exact fun j u h => h
        case c2 => first | exact bv_one _ | rfl | (intro u hu; simp at hu; rcases hu with rfl | rfl <;> rfl)
        case c3 => first | (unfold maxLen; omega) | (unfold maxLen; simp; omega)
        case c4 => first | omega | (simp; omega)
        case c5 => first | (have := HBW.out; omega) | (have := HBW.out; simp; omega)
        intro x1 w1 hown1 hg1 _
        obtain ⟨R1, R2⟩ := rstep (c := 3) (Nat.le_refl _) HB.out hown hown1 hg1
        obtain ⟨b2, off2, hbo, e1, e2, e3⟩ := (HX.out.old R2.out).get HV.out
        simp only [Option.some.injEq, Addr.mk.injEq, and_true] at hbo
        obtain ⟨rfl, rfl⟩ := hbo
        simp only at e1 e2 e3
        clear hown1 hg1 hown d1 d2 d3
        have hsl : vs.length ≤ 20 := HSS.out trivial
        have hsz := str_len vs
        have HVAL : Hid (valB ⟨2, vi, vs⟩ = 3 :: (escL vs ++ [0, 1])) := rfl
        go_wp2_with fail
        clear e1 e2 e3
        go_loopw [3, 7] (fun y j wi => ∃ (m : Nat) (a2 : List UInt8), m ≤ vs.length ∧ j = .int .i64 (m : Int) ∧ a2 = acc ++ [3] ++ escL (vs.take m) ∧ wi.ownsRow w.heap.size 5 1 y a2.length (a2.map bv) ∧ Below w.heap.size w wi)
          (fun _ j _ => vs.length - (intOf j).toNat)
        case atStart => exact ⟨0, acc ++ [3], by omega, rfl, by simp [escL], R1.out, R2.out⟩
        case round =>
          obtain ⟨m, a2, hm, rfl, ha2, hown2, hb2⟩ := hrel
          have HA2 := hid ha2
          have hal : a2.length ≤ 90100 := by
            have := escL_len (vs.take m)
            rw [ha2]
            simp only [List.length_append, List.length_cons, List.length_nil, List.length_take] at *
            omega
          have HB2 := hid hb2
          clear ha2 hb2
          obtain ⟨b2, off2, hbo, e1, e2, e3⟩ := (HX.out.old HB2.out).get HV.out
          simp only [Option.some.injEq, Addr.mk.injEq, and_true] at hbo
          obtain ⟨rfl, rfl⟩ := hbo
          simp only at e1 e2 e3
          have HQ : Hid (w.heap.size ≤ wr.heap.size) := HB2.out.size
          by_cases hmt : m < vs.length
          · have HET := hid (escL_take hmt)
            have hidx := idx_at (P := Try.prog) 9 Try.underlying9 vs m hmt
            have hc256 := UInt8.toNat_lt vs[m]
            have hcz : (vs[m] = 0) ↔ vs[m].toNat = 0 := by rw [← UInt8.toNat_inj]; rfl
            generalize vs[m] = c at *
            have HC := hid hcz
            clear hcz
            by_cases hc0 : c.toNat = 0
            · have HE2 : Hid (escL (vs.take (m + 1)) = escL (vs.take m) ++ [c, 255]) := by rw [Hid, HET.out, if_pos (HC.out.2 hc0)]
              have HCC : Hid (Value.int .u8 (0 : Int) = bv c) := by rw [Hid, bv, hc0]; rfl
              rw [hc0] at hidx
              clear HET HC
              go_wp2_with (first
                  | (at_builtin; refine wpList_append_own _ rfl _ _ 27 rfl w.heap.size 5 i0 (.int .u8 0) 1 1 Try.underlying27 hi hz0 hz1 hz2 rfl (by decide) _ _ _ rfl (hown2.alloc _) ⟨wr.heap.size, 0, none⟩ 1 1 [bv c] rfl rfl ?c1 ?c2 ?c3 ?c4 ?c5 ?_))
              case c1 => first | (rw [← HCC.out]; exact (cell_one_new _ _ _)) | exact (cells_two_new _ _ _ _) | exact fun j u h => h
              case c2 => first | exact bv_one _ | rfl | (intro u hu; simp at hu; rcases hu with rfl | rfl <;> rfl)
              case c3 => first | (unfold maxLen; omega) | (unfold maxLen; simp; omega)
              case c4 => first | omega | (simp; omega)
              case c5 => first | (have := HQ.out; omega) | (have := HQ.out; simp; omega)
              intro x2 w2 hown3 hg3 _
              obtain ⟨q1, q2⟩ := rstep (Nat.le_refl _) HB2.out hown2 hown3 hg3
              clear hown3 hg3 hown2 e1 e2 e3
              have hown2 := q1.out
              have HB2 := q2
              obtain ⟨b2, off2, hbo, e1, e2, e3⟩ := (HX.out.old HB2.out).get HV.out
              simp only [Option.some.injEq, Addr.mk.injEq, and_true] at hbo
              obtain ⟨rfl, rfl⟩ := hbo
              simp only at e1 e2 e3
              have HQ2 : Hid (w.heap.size ≤ w2.heap.size) := q2.out.size
              have hal2 : (a2 ++ [c]).length ≤ 90101 := by simp; omega
              go_wp2_with (first
                  | (at_builtin; refine wpList_append_own _ rfl _ _ 27 rfl w.heap.size 5 i0 (.int .u8 0) 1 1 Try.underlying27 hi hz0 hz1 hz2 rfl (by decide) _ _ _ rfl (hown2.alloc _) ⟨w2.heap.size, 0, none⟩ 1 1 [bv 255] rfl rfl ?c1 ?c2 ?c3 ?c4 ?c5 ?_))
              case c1 => first | exact (cell_one_new _ _ _) | exact (cells_two_new _ _ _ _) | exact fun j u h => h
              case c2 => first | exact bv_one _ | rfl | (intro u hu; simp at hu; rcases hu with rfl | rfl <;> rfl)
              case c3 => first | (unfold maxLen; omega) | (unfold maxLen; simp; omega)
              case c4 => first | omega | (simp; omega)
              case c5 => first | (have := HQ2.out; omega) | (have := HQ2.out; simp; omega)
              intro x3 w3 hown3 hg3 _
              obtain ⟨q3, q4⟩ := rstep (acc := a2 ++ [c]) (c := 255) (Nat.le_refl _) HB2.out hown2 (by simpa using hown3) hg3
              clear hown3 hg3 hown2 e1 e2 e3
              go_wp2_with fail
              go_roundw
              case rel => exact ⟨m + 1, a2 ++ [c] ++ [255], by omega, by go_num, by rw [HE2.out, HA2.out]; simp, q3.out, q4.out⟩
              case measure => simp [intOf]; omega
            · have HE2 : Hid (escL (vs.take (m + 1)) = escL (vs.take m) ++ [c]) := by rw [Hid, HET.out, if_neg (fun e => hc0 (HC.out.1 e))]
              have hc1 : ¬ (c.toNat : Int) = 0 := by omega
              clear HET HC
              go_wp2_with (first
                  | (at_builtin; refine wpList_append_own _ rfl _ _ 27 rfl w.heap.size 5 i0 (.int .u8 0) 1 1 Try.underlying27 hi hz0 hz1 hz2 rfl (by decide) _ _ _ rfl (hown2.alloc _) ⟨wr.heap.size, 0, none⟩ 1 1 [bv c] rfl rfl ?c1 ?c2 ?c3 ?c4 ?c5 ?_))
              case c1 => first | exact (cell_one_new _ _ _) | exact (cells_two_new _ _ _ _) | exact fun j u h => h
              case c2 => first | exact bv_one _ | rfl | (intro u hu; simp at hu; rcases hu with rfl | rfl <;> rfl)
              case c3 => first | (unfold maxLen; omega) | (unfold maxLen; simp; omega)
              case c4 => first | omega | (simp; omega)
              case c5 => first | (have := HQ.out; omega) | (have := HQ.out; simp; omega)
              intro x2 w2 hown3 hg3 _
              obtain ⟨q1, q2⟩ := rstep (Nat.le_refl _) HB2.out hown2 hown3 hg3
              clear hown3 hg3 hown2 e1 e2 e3
              have HB2 := q2
              obtain ⟨b2, off2, hbo, e1, e2, e3⟩ := (HX.out.old HB2.out).get HV.out
              simp only [Option.some.injEq, Addr.mk.injEq, and_true] at hbo
              obtain ⟨rfl, rfl⟩ := hbo
              simp only at e1 e2 e3
              go_wp2_with fail
              go_roundw
              case rel => exact ⟨m + 1, a2 ++ [c], by omega, by go_num, by rw [HE2.out, HA2.out]; simp, q1.out, q2.out⟩
              case measure => simp [intOf]; omega
          · obtain rfl : m = vs.length := by omega
            go_wp2_with (first
                | (at_builtin; refine wpList_append_own _ rfl _ _ 27 rfl w.heap.size 5 i0 (.int .u8 0) 1 1 Try.underlying27 hi hz0 hz1 hz2 rfl (by decide) _ _ _ rfl (hown2.alloc _) ⟨wr.heap.size, 0, none⟩ 2 2 [bv 0, bv 1] rfl rfl ?c1 ?c2 ?c3 ?c4 ?c5 ?_))
            case c1 => first | exact (cell_one_new _ _ _) | exact (cells_two_new _ _ _ _) | exact fun j u h => h
            case c2 => first | exact bv_one _ | rfl | (intro u hu; simp at hu; rcases hu with rfl | rfl <;> rfl)
            case c3 => first | (unfold maxLen; omega) | (unfold maxLen; simp; omega)
            case c4 => first | omega | (simp; omega)
            case c5 => first | (have := HQ.out; omega) | (have := HQ.out; simp; omega)
            intro x2 w2 hown3 hg3 _
            have q := put_step2 (c := 0) (d := 1) HB2.out (Nat.le_refl _) hown2 hown3 hg3
            have Q1 := hid q.1
            have Q2 := hid q.2
            clear hown3 hg3 hown2 q e1 e2 e3
            go_wp2_with fail
            go_roundw
            case rel => exact ⟨k + 1, by omega, by go_num, by
              have e : acc ++ valB ⟨2, vi, vs⟩ = a2 ++ [0, 1] := by rw [HVAL.out, HA2.out, List.take_length]; simp
              rw [HE.out, e]; exact Q1.out, Q2.out⟩
            case measure => simp [intOf]; omega
    · obtain rfl : k = l.length := by omega
      rw [List.take_length] at hown
      go_wp2_with fail
      go_ret
      exact ⟨_, rfl, hown, HB.out⟩

set_option maxHeartbeats 2000000 in
set_option maxRecDepth 100000 in
theorem renc_any (x : Value) (l : List Vl) (w : World) (hx : Vs w x l) (hin : ∀ v ∈ l, inV v) (hl : l.length ≤ 140737488355328) :
    Calls Try.prog 13 #[x] w (EncIs l w) := by
  obtain ⟨ao, c, rfl, -⟩ := hx.form
  have HX := hid hx
  have HI := hid hin
  clear hx hin
  go_enter Try.func13, Try.ntmps13
  go_wp2_with fail
  go_loopw [4] (fun i wr => ∃ k, k ≤ l.length ∧ i = .int .i64 (k : Int) ∧ (∀ j v, j < k → l[j]? = some v → okV v) ∧ Below w.heap.size w wr) (fun i _ => l.length - (intOf i).toNat)
  case atStart => exact ⟨0, by omega, rfl, fun j v h => by omega, Below.refl _ _⟩
  case round =>
    obtain ⟨k, hk, rfl, hok, hb⟩ := hrel
    have HO := hid hok
    have HB := hid hb
    clear hok hb
    by_cases hlt : k < l.length
    · have hv := List.getElem?_eq_getElem hlt
      generalize l[k] = v at *
      obtain ⟨b, off, rfl, d1, d2, d3⟩ := (HX.out.old HB.out).get hv
      have HV := hid hv
      clear hv
      have C := fun W => rright_any v W
      unfold sv at C
      by_cases ho : okV v
      · rw [decide_eq_true ho] at C
        go_wp2_with (first | (go_at_call 16; refine (C _).mono ?_; rintro e w2 ⟨rfl, hb2⟩))
        have HB2 := hid (HB.out.trans (hb2.mono HB.out.size))
        clear hb2
        go_roundw
        case rel =>
          refine ⟨k + 1, by omega, by go_num, fun j u hj hu => ?_, HB2.out⟩
          by_cases hjk : j < k
          · exact HO.out j u hjk hu
          · obtain rfl : j = k := by omega
            rw [HV.out] at hu
            cases hu
            exact ho
        case measure => simp [intOf]; omega
      · have HE := hid (encE_bad HV.out ho)
        rw [decide_eq_false ho] at C
        go_wp2_with (first | (go_at_call 16; refine (C _).mono ?_; rintro e w2 ⟨rfl, hb2⟩))
        have HB2 := hid (HB.out.trans (hb2.mono HB.out.size))
        go_ret2
        obtain ⟨h1, h2⟩ := HE.out
        unfold EncIs
        rw [h1, h2]
        exact ⟨_, rfl, World.ownsRow_nil _ _ _ _, HB2.out⟩
    · have HA : Hid (∀ v ∈ l, okV v) := all_of (fun j v hj => HO.out j v (by have := (List.getElem?_eq_some_iff.1 hj).1; omega) hj)
      by_cases h16 : 16 < l.length
      · have HE := hid (encE_long HA.out h16)
        go_wp2_with fail
        go_ret2
        obtain ⟨h1, h2⟩ := HE.out
        unfold EncIs
        rw [h1, h2]
        exact ⟨_, rfl, World.ownsRow_nil _ _ _ _, HB.out⟩
      · have HE := hid (encE_ok HA.out h16)
        have C := rbytes_any _ l wr (HX.out.old HB.out) HI.out HA.out (by omega)
        go_wp2_with (first | (go_at_call 32; refine C.mono ?_; rintro e w2 ⟨y, rfl, o2, b2⟩))
        have HB2 := hid (HB.out.trans (b2.mono HB.out.size))
        have HO2 := hid (ownsRow_base o2 HB.out.size)
        clear o2 b2
        go_ret2
        obtain ⟨h1, h2⟩ := HE.out
        unfold EncIs
        rw [h1, h2]
        exact ⟨_, rfl, HO2.out, HB2.out⟩
end Go.Proofs.Ytacmidfcocjdjaa
