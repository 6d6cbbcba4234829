/-
  THE LAW RaftAlone: its walk.
-/
import Derived.Test.YtdaecndbdinddaaRk
import Derived.Test.YtdaecndbdinddaaRq
set_option linter.unusedVariables false
set_option linter.unusedSimpArgs false
set_option maxRecDepth 100000
namespace Go.Proofs.Ytdaecndbdinddaa
open Go.RowKit Go.Deep walSame

theorem al_status2 {w wr : World} {b : Nat} {L : Lo} {j : Nat} (h : Al w wr b L (j + 1)) (hj : j ≤ 40) : Calls Try.prog 17 #[.pointer (some ⟨b, 0, none⟩)] wr (fun e w' => e = .returned (.agg #[.int .i64 2, .int .u64 (L.ht : Int), .int .i64 L.hv, .int .i64 1, .int .u64 ((j : Int) + 2), .int .u64 ((L.si + 1 : Nat) : Int), .int .u64 ((L.si + L.es.length : Nat) : Int)]) ∧ Below wr.heap.size wr w') := al_status h (by omega)
theorem al_status3 {w wr : World} {b : Nat} {L : Lo} {j : Nat} (h : Al w wr b L (j + 1)) (hj : j ≤ 40) (he : L.es = []) : Calls Try.prog 17 #[.pointer (some ⟨b, 0, none⟩)] wr (fun e w' => e = .returned (.agg #[.int .i64 2, .int .u64 (L.ht : Int), .int .i64 L.hv, .int .i64 1, .int .u64 ((j : Int) + 2), .int .u64 ((j : Int) + 2 + 1), .int .u64 ((L.si + L.es.length : Nat) : Int)]) ∧ Below wr.heap.size wr w') := by
  have hs := h.sum
  have hl : L.es.length = 0 := by rw [he]; rfl
  have := al_status2 h hj
  rw [show ((L.si + 1 : Nat) : Int) = (j : Int) + 2 + 1 from by omega] at this
  exact this
theorem entry_same (F : En) (j : Nat) (a : Option Addr) (n c : Nat) (d : List UInt8) (hn : n = d.length) (W : World) (hF : Rd W (.slice F.r.a F.r.b.length F.r.c) F.r.b) (hd : Rd W (.slice a n c) d) (he : F.pe = ⟨1, j + 2, d⟩) :
    Calls Try.prog 22 #[.agg #[.int .u64 (F.t : Int), .int .u64 (F.i : Int), .slice F.r.a F.r.b.length F.r.c], .agg #[.int .u64 1, .int .u64 ((j : Int) + 2), .slice a n c]] W (fun en w' => en = .returned (.bool true) ∧ Below W.heap.size W w') := by
  subst hn
  have := hentry_any F ⟨1, j + 2, ⟨a, c, d⟩⟩ W hF hd
  rw [show decide (F.pe = (En.mk 1 (j + 2) ⟨a, c, d⟩).pe) = true from by rw [he]; simp [En.pe]] at this
  exact this

namespace raftAlone
set_option maxHeartbeats 16000000 in
theorem walk0 (a0 a1 : Option Addr) (n0 c0 n1 c1 : Nat) (RI : List Rc) (w : World) (hn0 : n0 = RI.length) (hI : Bss w (.slice a0 n0 c0) RI) (hBs : Bools w a1 n1) :
    Calls Try.prog 5 #[.slice a0 n0 c0, .slice a1 n1 c1] w (fun e w' => e = .returned (.bool true) ∧ Below w.heap.size w w') := by
  have HN0 := hid hn0
  have HI := hid hI
  have HBO := hid hBs
  have CN : Hid (Calls Try.prog 20 #[.int .i64 0, .int .i64 1, .agg #[.int .u64 0, .int .i64 0, .int .u64 0, .int .u64 0, .slice none 0 0, .slice none 0 0]] w (NewP w 0 1 lo0)) := hid (new_any 0 1 lo0 w (lo0_at w) (by decide))
  have hl0 := fun W => run_len_slice (P := Try.prog) W 60 3 a0 n0 c0 Try.underlying60
  have hl1 := fun W => run_len_slice (P := Try.prog) W 61 3 a1 n1 c1 Try.underlying61
  have hlb := fun W a n c => run_len_slice (P := Try.prog) W 28 3 a n c Try.underlying28
  have hle := fun W a n c => run_len_slice (P := Try.prog) W 30 3 a n c Try.underlying30
  have hlm := fun W a n c => run_len_slice (P := Try.prog) W 37 3 a n c Try.underlying37
  have hf4 : ∀ (x0 x1 x2 x3 x4 x5 x6 : Value) (W : World), (Instr.field 53 (.agg #[x0, x1, x2, x3, x4, x5, x6]) 4).run Try.prog W = .ok x4 W := fun _ _ _ _ _ _ _ _ => by kernel_rfl
  have hf5 : ∀ (x0 x1 x2 x3 x4 x5 x6 : Value) (W : World), (Instr.field 53 (.agg #[x0, x1, x2, x3, x4, x5, x6]) 5).run Try.prog W = .ok x5 W := fun _ _ _ _ _ _ _ _ => by kernel_rfl
  have hfl : ∀ (x0 x1 x2 x3 x4 x5 : Value) (W : World), (Instr.field 69 (.agg #[x0, x1, x2, x3, x4, x5]) 1).run Try.prog W = .ok (.agg #[x2, x3, x4]) W := fun _ _ _ _ _ _ _ => by kernel_rfl
  have hfs : ∀ (x2 x3 x4 : Value) (W : World), (Instr.field 67 (.agg #[x2, x3, x4]) 2).run Try.prog W = .ok x4 W := fun _ _ _ _ => by kernel_rfl
  clear hI hBs hn0
  go_enter Try.func5, Try.ntmps5
  go_upto_region 2 with (first | (go_at_call 20; refine CN.out.mono ?_; rintro en w1 ⟨hb1, hor1⟩; have HB1 := hid hb1; rcases hor1 with ⟨h9, -⟩ | ⟨-, b, rfl, hM⟩; (exact absurd (lo0_may.symm.trans h9) (by decide)); have HM := hid hM; clear hM hb1))
  obtain ⟨is, hbb, hnd, hpl, hlo, hown, hoff, hrow⟩ := HM.out
  have hes : is.es = [] := by
    have := congrArg PL.es hpl
    exact List.map_eq_nil_iff.1 this
  have hsi : is.si = 0 := congrArg PL.si hpl
  have hht : is.ht = 0 := congrArg PL.ht hpl
  have HO : Hid (One w.heap.size w1 b is 0 0 0 0 false) := hid ⟨hnd, hlo, hown, hrow, (show LoOff is (fun k => k = b) from ⟨fun hne a ha e => hoff.1 hne a ha (.inl e), fun x hx hne a ha e => hoff.2.1 x hx hne a ha (.inl e), fun hne a ha e => hoff.2.2 hne a ha (.inl e)⟩), hbb⟩
  have HE := hid hes
  have HSI := hid hsi
  have HHT := hid hht
  clear hnd hpl hlo hown hoff hrow hes hsi hht
  go_wp2_with (first | (go_at_call 11; refine (rawake_any _).mono ?_; rintro en wA ⟨rfl, hbA⟩; have HBA := hid (HB1.out.trans (hbA.mono HB1.out.size)); have HOA := hid (HO.out.old hbA); clear hbA))
  go_loopw [7] (fun i wr => ∃ k : Nat, k ≤ 11 ∧ i = .int .i64 (k : Int) ∧ Hid (Below w.heap.size w wr) ∧ Hid ((k < 10 ∧ One w.heap.size wr b is 0 0 0 (k : Int) false) ∨ (10 ≤ k ∧ ∃ po pc, One w.heap.size wr b (is.term.more po pc ⟨none, 0, []⟩) 2 1 1 ((k : Int) - 10) true))) (fun i _ => 11 - (intOf i).toNat)
  case atStart => exact ⟨0, by omega, rfl, HBA.out, .inl ⟨by omega, HOA.out⟩⟩
  case round =>
    obtain ⟨k, hk, rfl, HBr, HOr⟩ := hrel
    have hz : IntKind.i64.wrap ((k : Int) + 1) = (k : Int) + 1 := by rw [IntKind.wrap_i64]; omega
    by_cases h9 : k < 9
    · have hki : (k : Int) < 11 := by omega
      have HO1 : Hid (One w.heap.size wr b is 0 0 0 (k : Int) false) := hid (HOr.out.elim (fun h => h.2) (fun h => by omega))
      have CT := hid (tick1_wait HO1.out ⟨by omega, by omega⟩)
      go_wp2_with (first | (go_at_call 21; refine CT.out.mono ?_; rintro en w2 ⟨rfl, hO2, hK2⟩; have HO2 := hid hO2; have HK2 := hid hK2; clear hO2 hK2))
      exact ⟨⟨k + 1, by omega, by simp, HBr.out.trans (HK2.out.below HBr.out.size (fun j e => by rw [e]; exact hbb)), .inl ⟨by omega, by have := HO2.out; simpa using this⟩⟩, by simp only [intOf]; omega⟩
    · by_cases h10 : k < 10
      · obtain rfl : k = 9 := by omega
        have HO1 : Hid (One w.heap.size wr b is 0 0 0 9 false) := hid (HOr.out.elim (fun h => h.2) (fun h => by omega))
        have CT := hid (tick1_elect HO1.out HSI.out HE.out HBr.out.size (by rw [HHT.out]; decide))
        go_wp2_with (first | (go_at_call 21; refine CT.out.mono ?_; rintro en w2 ⟨rfl, po, pc, hO2, hK2⟩; have HO2 := hid hO2; have HK2 := hid hK2; clear hO2 hK2))
        exact ⟨⟨10, by omega, rfl, HBr.out.trans (HK2.out.below HBr.out.size (fun j e => e.elim (fun e => by rw [e]; exact hbb) (fun e => (HO1.out.own.own.lt j e).1))), .inr ⟨by omega, po, pc, HO2.out⟩⟩, by simp only [intOf]; omega⟩
      · have HO1 : Hid (∃ po pc, One w.heap.size wr b (is.term.more po pc ⟨none, 0, []⟩) 2 1 1 ((k : Int) - 10) true) := hid (HOr.out.elim (fun h => by omega) (fun h => h.2))
        obtain ⟨po, pc, hO1⟩ := HO1.out
        by_cases h11 : k < 11
        · obtain rfl : k = 10 := by omega
          have hO1' : One w.heap.size wr b (is.term.more po pc ⟨none, 0, []⟩) 2 1 1 0 true := hO1
          have CT := hid (tick1_lead hO1' ⟨by omega, by omega⟩)
          have HO9 := hid hO1'
          clear hO1 hO1'
          go_wp2_with (first | (go_at_call 21; refine CT.out.mono ?_; rintro en w2 ⟨rfl, hO2, hK2⟩; have HO2 := hid hO2; have HK2 := hid hK2; clear hO2 hK2))
          exact ⟨⟨11, by omega, rfl, HBr.out.trans (HK2.out.below HBr.out.size (fun j e => by rw [e]; exact hbb)), .inr ⟨by omega, po, pc, HO2.out⟩⟩, by simp only [intOf]; omega⟩
        · have HK11 : Hid (k = 11) := hid (by omega)
          have hki : ¬ ((k : Int) < 11) := by omega
          have hO1' : One w.heap.size wr b (is.term.more po pc ⟨none, 0, []⟩) 2 1 1 1 true := by
            have h9 := hO1
            rw [HK11.out] at h9
            exact h9
          have HA0 : Hid (Al w wr b (is.term.more po pc ⟨none, 0, []⟩) 0) := hid ⟨hO1', HBr.out, by rw [more_len]; show is.si + (is.es.length + 1) = 0 + 1; rw [HSI.out, HE.out]; rfl, by show is.ht + 1 = 1; rw [HHT.out]⟩
          clear h9 h10 h11 hz hk
          clear hO1 hO1' HO1 HOr
          go_wp2_with fail
          clear hki
          generalize wr = wZ at *
          go_loopw [8] (fun i wr => ∃ (j : Nat) (L : Lo), j ≤ n0 ∧ j ≤ 40 ∧ i = .int .i64 (j : Int) ∧ Hid (Al w wr b L j)) (fun i _ => 40 - (intOf i).toNat)
          case atStart => exact ⟨0, _, by omega, by omega, rfl, HA0.out⟩
          case round =>
            obtain ⟨j, L, hj, hj4, rfl, HA⟩ := hrel
            have hz : IntKind.i64.wrap ((j : Int) + 1) = (j : Int) + 1 := by rw [IntKind.wrap_i64]; omega
            have hz2 : IntKind.i64.wrap ((j : Int) + 2) = (j : Int) + 2 := by rw [IntKind.wrap_i64]; omega
            have hz3 : IntKind.u64.wrap ((j : Int) + 2) = (j : Int) + 2 := by rw [wrap_u64]; omega
            have hz4 : IntKind.u64.wrap ((j : Int) + 2 + 1) = (j : Int) + 2 + 1 := by rw [wrap_u64]; omega
            by_cases hlt : j < n0
            · have hki : (j : Int) < (n0 : Int) := by omega
              by_cases h40 : j < 40
              · have hki4 : (j : Int) < 40 := by omega
                have hA9 := List.getElem?_eq_getElem (l := RI) (i := j) (by have := HN0.out; omega)
                generalize RI[j]'_ = r at hA9
                obtain ⟨b1, o1, ea1, c10, r1⟩ := (HI.out.old HA.out.bl).get hA9
                have HRW : Hid (∀ V, Below w.heap.size w V → Rd V (rcv r) r.b) := hid fun V hV => (HI.out.old hV).2 r (List.mem_of_getElem? hA9)
                have HEA1 := hid ea1
                subst ea1
                simp only [rcv] at c10
                clear hA9 r1
                by_cases hbig : r.b.length > 200
                · have hbi : (r.b.length : Int) > 200 := by omega
                  obtain ⟨ra, rc, hsl, -, hkk⟩ := (HRW.out _ (Below.refl _ _)).head (P := Try.prog) 28 5 Try.underlying28 (by kernel_rfl) 200 (by omega)
                  have hsl2 : ∀ W, (Instr.slice 28 (.slice r.a r.b.length r.c) none (some (.int .i64 200)) none).run Try.prog W = .ok (.slice ra 200 rc) W := fun W => hsl .i64 W
                  have HDW : Hid (∀ V, Below w.heap.size w V → Rd V (.slice ra 200 rc) (r.b.take 200)) := hid fun V hV => by
                    obtain ⟨ra', rc', hsl', hrd', -⟩ := (HRW.out _ hV).head (P := Try.prog) 28 5 Try.underlying28 (by kernel_rfl) 200 (by omega)
                    have e9 := (hsl .i64 V).symm.trans (hsl' .i64 V)
                    simp only [Result.ok.injEq, Value.slice.injEq, and_true, true_and] at e9
                    obtain ⟨rfl, rfl⟩ := e9
                    exact hrd'
                  have HND : Hid (200 = (r.b.take 200).length) := hid (by rw [List.length_take]; omega)
                  have HDL : Hid ((r.b.take 200).length ≤ 200) := hid (by rw [List.length_take]; omega)
                  have HD := hid (HDW.out _ HA.out.bl)
                  clear hsl hkk
                  go_upto_region 14 with fail
                  clear hsl2 c10 hbi
                  have CP := hid (al_propose HA.out hj4 ra 200 rc (r.b.take 200) HND.out HD.out HDL.out)
                  go_upto_region 15 with (first | (go_at_call 15; refine CP.out.mono ?_; rintro en w2 ⟨rfl, L2, hA2, E, r2, hE2, hr2⟩; have HA2 := hid hA2; have HE2 := hid hE2; have HR2 := hid hr2; have CS2 := hid (al_status2 hA2 (by omega)); clear hA2 hE2 hr2))
                  have HD2 : Hid (∀ V, Below w.heap.size w V → Rd V (.slice ra 200 rc) (r.b.take 200)) := HDW
                  go_upto_region 17 with (first | (go_at_call 17; refine CS2.out.mono ?_; rintro en w3 ⟨rfl, hb3⟩; have HA3 := hid (HA2.out.old hb3); have CK3a := al_known (HA2.out.old hb3) (by omega) E ⟨1, j + 2, r2⟩ HE2.out; clear hb3))
                  have CK3 : Hid (Calls Try.prog 18 #[.pointer (some ⟨b, 0, none⟩), .int .u64 ((j : Int) + 2)] w3 (fun e w' => ∃ (F : En) (yo : Option Addr) (yc : Nat), e = .returned (.slice yo 1 yc) ∧ F.pe = ⟨1, j + 2, (r.b.take 200)⟩ ∧ Ents w' (.slice yo 1 yc) [F] ∧ Below w3.heap.size w3 w')) := hid (by have h9 := CK3a; rw [show (En.mk 1 (j + 2) r2).pe = ⟨1, j + 2, (r.b.take 200)⟩ from by rw [← HR2.out]; rfl] at h9; exact h9)
                  clear CK3a
                  go_upto_region 18 with (first | (go_at_call 18; refine CK3.out.mono ?_; rintro en w4 ⟨F, yo, yc, rfl, hpe, hEn, hb4⟩; have HPE := hid hpe; have HEN := hid hEn; have HA4 := hid (HA3.out.old hb4); clear hpe hEn hb4))
                  obtain ⟨b2, o2, ey, c20, c21, c22, rF⟩ := HEN.out.get (k := 0) (e := F) rfl
                  subst ey
                  simp only [Nat.zero_mul, Nat.add_zero] at c20 c21 c22
                  have HRF := hid rF
                  have CE4 := hid (entry_same F j ra 200 rc (r.b.take 200) HND.out w4 rF (HD2.out _ HA4.out.bl) HPE.out)
                  clear rF
                  go_upto_region 20 with (first
                    | (go_at_call 22; refine CE4.out.mono ?_; rintro en w5 ⟨rfl, hb5⟩; have HA5 := hid (HA4.out.old hb5); have CT5 := hid (al_take (HA4.out.old hb5)); clear hb5)
                    | (go_at_call 23; refine CT5.out.mono ?_; rintro en w6 ⟨rfl, hA6⟩; have HA6 := hid hA6; clear hA6))
                  clear c20 c21 c22
                  have HLN : Hid (1 ≤ L2.es.length) := hid (by rw [HE2.out, List.length_append]; simp)
                  by_cases hsn : j < n1
                  · have hsi : (j : Int) < (n1 : Int) := by omega
                    obtain ⟨b8, o8, sv, ea, hlt8, c8⟩ := HBO.out j hsn
                    have HEA := hid ea
                    have c8' := (World.cell?_of_block (w := w) (a := ⟨b8, o8 + j, none⟩) (HA6.out.bl.block _ hlt8)).trans c8
                    subst ea
                    clear c8
                    cases sv with
                    | false =>
                      go_wp2_with fail
                      exact ⟨⟨j + 1, L2, by omega, by omega, by simp, HA6.out⟩, by simp only [intOf]; omega⟩
                    | true =>
                      have CC6 : Hid (Calls Try.prog 24 #[.pointer (some ⟨b, 0, none⟩), .int .u64 ((j : Int) + 2), .slice ra 200 rc] w6 (fun e w' => e = .returned (.int .i64 0) ∧ ∃ L', Al w w' b L' (j + 1) ∧ L'.es = [] ∧ L'.sd.b = (r.b.take 200))) := hid (al_compact HA6.out (by omega) HLN.out ra 200 rc (r.b.take 200) HND.out (HD2.out _ HA6.out.bl) HDL.out)
                      go_wp2_with (first
                        | (go_at_call 24; refine CC6.out.mono ?_; rintro en w7 ⟨rfl, L3, hA7, he7, hs7⟩; have HA7 := hid hA7; have HE7 := hid he7; have HS7 := hid hs7; have CS7 := hid (al_status3 hA7 (by omega) he7); clear hA7 he7 hs7)
                        | (go_at_call 17; refine CS7.out.mono ?_; rintro en w8 ⟨rfl, hb8⟩; have HA8 := hid (HA7.out.old hb8); have CK8 := hid (al_known0 (HA7.out.old hb8) (by omega) HE7.out); clear hb8)
                        | (go_at_call 18; refine CK8.out.mono ?_; rintro en w9 ⟨⟨zo, zc, rfl⟩, hb9⟩; have HA9 := hid (HA8.out.old hb9); have CL9 := hid (al_log (HA8.out.old hb9) (by omega)); clear hb9)
                        | (go_at_call 25; refine CL9.out.mono ?_; rintro en wL ⟨i2, rfl, hp2, hlo2, hbL, -⟩; have HAL := hid (HA9.out.old hbL); have hsd : i2.sd.b = (r.b.take 200) := (congrArg PL.sd hp2).trans HS7.out; have CB0 := bytes_any (.slice i2.sd.a i2.sd.b.length i2.sd.c) (.slice ra 200 rc) i2.sd.b (r.b.take 200) wL hlo2.sd (HD2.out _ HAL.out.bl); rw [show (i2.sd.b == (r.b.take 200)) = true from by rw [hsd]; simp] at CB0; have CB := hid CB0; clear hp2 hlo2 hbL hsd CB0; simp only [Lo.v])
                        | (go_at_call 19; refine CB.out.mono ?_; rintro en wB ⟨rfl, hwB⟩; subst hwB))
                      exact ⟨⟨j + 1, L3, by omega, by omega, by simp, HAL.out⟩, by simp only [intOf]; omega⟩
                  · have hsi : ¬ ((j : Int) < (n1 : Int)) := by omega
                    go_wp2_with fail
                    exact ⟨⟨j + 1, L2, by omega, by omega, by simp, HA6.out⟩, by simp only [intOf]; omega⟩
                · have hbi : ¬ ((r.b.length : Int) > 200) := by omega
                  have HDW : Hid (∀ V, Below w.heap.size w V → Rd V (.slice r.a r.b.length r.c) r.b) := HRW
                  have HND : Hid (r.b.length = r.b.length) := hid rfl
                  have HDL : Hid (r.b.length ≤ 200) := hid (by omega)
                  have HD := hid (HDW.out _ HA.out.bl)
                  go_upto_region 14 with fail
                  clear c10 hbi
                  have CP := hid (al_propose HA.out hj4 r.a r.b.length r.c r.b rfl HD.out HDL.out)
                  go_upto_region 15 with (first | (go_at_call 15; refine CP.out.mono ?_; rintro en w2 ⟨rfl, L2, hA2, E, r2, hE2, hr2⟩; have HA2 := hid hA2; have HE2 := hid hE2; have HR2 := hid hr2; have CS2 := hid (al_status2 hA2 (by omega)); clear hA2 hE2 hr2))
                  have HD2 : Hid (∀ V, Below w.heap.size w V → Rd V (.slice r.a r.b.length r.c) r.b) := HDW
                  go_upto_region 17 with (first | (go_at_call 17; refine CS2.out.mono ?_; rintro en w3 ⟨rfl, hb3⟩; have HA3 := hid (HA2.out.old hb3); have CK3a := al_known (HA2.out.old hb3) (by omega) E ⟨1, j + 2, r2⟩ HE2.out; clear hb3))
                  have CK3 : Hid (Calls Try.prog 18 #[.pointer (some ⟨b, 0, none⟩), .int .u64 ((j : Int) + 2)] w3 (fun e w' => ∃ (F : En) (yo : Option Addr) (yc : Nat), e = .returned (.slice yo 1 yc) ∧ F.pe = ⟨1, j + 2, r.b⟩ ∧ Ents w' (.slice yo 1 yc) [F] ∧ Below w3.heap.size w3 w')) := hid (by have h9 := CK3a; rw [show (En.mk 1 (j + 2) r2).pe = ⟨1, j + 2, r.b⟩ from by rw [← HR2.out]; rfl] at h9; exact h9)
                  clear CK3a
                  go_upto_region 18 with (first | (go_at_call 18; refine CK3.out.mono ?_; rintro en w4 ⟨F, yo, yc, rfl, hpe, hEn, hb4⟩; have HPE := hid hpe; have HEN := hid hEn; have HA4 := hid (HA3.out.old hb4); clear hpe hEn hb4))
                  obtain ⟨b2, o2, ey, c20, c21, c22, rF⟩ := HEN.out.get (k := 0) (e := F) rfl
                  subst ey
                  simp only [Nat.zero_mul, Nat.add_zero] at c20 c21 c22
                  have HRF := hid rF
                  have CE4 := hid (entry_same F j r.a r.b.length r.c r.b rfl w4 rF (HD2.out _ HA4.out.bl) HPE.out)
                  clear rF
                  go_upto_region 20 with (first
                    | (go_at_call 22; refine CE4.out.mono ?_; rintro en w5 ⟨rfl, hb5⟩; have HA5 := hid (HA4.out.old hb5); have CT5 := hid (al_take (HA4.out.old hb5)); clear hb5)
                    | (go_at_call 23; refine CT5.out.mono ?_; rintro en w6 ⟨rfl, hA6⟩; have HA6 := hid hA6; clear hA6))
                  clear c20 c21 c22
                  have HLN : Hid (1 ≤ L2.es.length) := hid (by rw [HE2.out, List.length_append]; simp)
                  by_cases hsn : j < n1
                  · have hsi : (j : Int) < (n1 : Int) := by omega
                    obtain ⟨b8, o8, sv, ea, hlt8, c8⟩ := HBO.out j hsn
                    have HEA := hid ea
                    have c8' := (World.cell?_of_block (w := w) (a := ⟨b8, o8 + j, none⟩) (HA6.out.bl.block _ hlt8)).trans c8
                    subst ea
                    clear c8
                    cases sv with
                    | false =>
                      go_wp2_with fail
                      exact ⟨⟨j + 1, L2, by omega, by omega, by simp, HA6.out⟩, by simp only [intOf]; omega⟩
                    | true =>
                      have CC6 : Hid (Calls Try.prog 24 #[.pointer (some ⟨b, 0, none⟩), .int .u64 ((j : Int) + 2), .slice r.a r.b.length r.c] w6 (fun e w' => e = .returned (.int .i64 0) ∧ ∃ L', Al w w' b L' (j + 1) ∧ L'.es = [] ∧ L'.sd.b = r.b)) := hid (al_compact HA6.out (by omega) HLN.out r.a r.b.length r.c r.b rfl (HD2.out _ HA6.out.bl) HDL.out)
                      go_wp2_with (first
                        | (go_at_call 24; refine CC6.out.mono ?_; rintro en w7 ⟨rfl, L3, hA7, he7, hs7⟩; have HA7 := hid hA7; have HE7 := hid he7; have HS7 := hid hs7; have CS7 := hid (al_status3 hA7 (by omega) he7); clear hA7 he7 hs7)
                        | (go_at_call 17; refine CS7.out.mono ?_; rintro en w8 ⟨rfl, hb8⟩; have HA8 := hid (HA7.out.old hb8); have CK8 := hid (al_known0 (HA7.out.old hb8) (by omega) HE7.out); clear hb8)
                        | (go_at_call 18; refine CK8.out.mono ?_; rintro en w9 ⟨⟨zo, zc, rfl⟩, hb9⟩; have HA9 := hid (HA8.out.old hb9); have CL9 := hid (al_log (HA8.out.old hb9) (by omega)); clear hb9)
                        | (go_at_call 25; refine CL9.out.mono ?_; rintro en wL ⟨i2, rfl, hp2, hlo2, hbL, -⟩; have HAL := hid (HA9.out.old hbL); have hsd : i2.sd.b = r.b := (congrArg PL.sd hp2).trans HS7.out; have CB0 := bytes_any (.slice i2.sd.a i2.sd.b.length i2.sd.c) (.slice r.a r.b.length r.c) i2.sd.b r.b wL hlo2.sd (HD2.out _ HAL.out.bl); rw [show (i2.sd.b == r.b) = true from by rw [hsd]; simp] at CB0; have CB := hid CB0; clear hp2 hlo2 hbL hsd CB0; simp only [Lo.v])
                        | (go_at_call 19; refine CB.out.mono ?_; rintro en wB ⟨rfl, hwB⟩; subst hwB))
                      exact ⟨⟨j + 1, L3, by omega, by omega, by simp, HAL.out⟩, by simp only [intOf]; omega⟩
                  · have hsi : ¬ ((j : Int) < (n1 : Int)) := by omega
                    go_wp2_with fail
                    exact ⟨⟨j + 1, L2, by omega, by omega, by simp, HA6.out⟩, by simp only [intOf]; omega⟩
              · obtain rfl : j = 40 := by omega
                have hki4 : ¬ (((40 : Nat) : Int) < 40) := by omega
                clear hz hz2 hz3 hz4
                have hmk := run_make_row' (P := Try.prog) 28 5 (.int .u8 0) 1 Try.underlying28 (by kernel_rfl) rfl .i64 .i64 32669 (by decide) (by decide)
                have hmk2 : ∀ W, (Instr.makeSlice 28 (.int .i64 32669) (.int .i64 32669)).run Try.prog W = .ok (.slice (some ⟨W.heap.size, 0, none⟩) 32669 32669) (W.alloc (.cells (madeCells #[.int .u8 0] 32669) 5)) := hmk
                clear hmk
                obtain ⟨mc, hmc⟩ : ∃ mc, mc = madeCells #[Value.int .u8 0] 32669 := ⟨_, rfl⟩
                rw [← hmc] at hmk2
                clear hmc
                have hbm : Below wr.heap.size wr (wr.alloc (.cells mc 5)) := (Below.refl _ _).alloc (Nat.le_refl _) _
                have CPL := hid (propose_long (HA.out.old hbm).one (some ⟨wr.heap.size, 0, none⟩) 32669 32669 (by decide))
                have HBM := hid ((HA.out.old hbm).bl)
                clear hbm
                go_wp2_with (first | (go_at_call 15; refine CPL.out.mono ?_; rintro en wP ⟨rfl, hbP⟩; have HBP := hid (HBM.out.trans (hbP.mono HBM.out.size)); clear hbP))
                go_ret
                exact ⟨rfl, HBP.out⟩
            · obtain rfl : j = n0 := by omega
              have hki : ¬ ((j : Int) < (j : Int)) := by omega
              clear hz hz2 hz3 hz4
              have hmk := run_make_row' (P := Try.prog) 28 5 (.int .u8 0) 1 Try.underlying28 (by kernel_rfl) rfl .i64 .i64 32669 (by decide) (by decide)
              have hmk2 : ∀ W, (Instr.makeSlice 28 (.int .i64 32669) (.int .i64 32669)).run Try.prog W = .ok (.slice (some ⟨W.heap.size, 0, none⟩) 32669 32669) (W.alloc (.cells (madeCells #[.int .u8 0] 32669) 5)) := hmk
              clear hmk
              obtain ⟨mc, hmc⟩ : ∃ mc, mc = madeCells #[Value.int .u8 0] 32669 := ⟨_, rfl⟩
              rw [← hmc] at hmk2
              clear hmc
              have hbm : Below wr.heap.size wr (wr.alloc (.cells mc 5)) := (Below.refl _ _).alloc (Nat.le_refl _) _
              have CPL := hid (propose_long (HA.out.old hbm).one (some ⟨wr.heap.size, 0, none⟩) 32669 32669 (by decide))
              have HBM := hid ((HA.out.old hbm).bl)
              clear hbm
              go_wp2_with (first | (go_at_call 15; refine CPL.out.mono ?_; rintro en wP ⟨rfl, hbP⟩; have HBP := hid (HBM.out.trans (hbP.mono HBM.out.size)); clear hbP))
              go_ret
              exact ⟨rfl, HBP.out⟩
theorem walk {H : Type} {enc : TypeId × Value → H} {base : Nat} {d0 d1 : DataW H} {p0 p1 : List MemPlace} (v0 v1 : Value) (w : World)
    (k0 : Value.okWide Try.prog w .any base 60 v0) (t0 : DataW.Trod enc Try.prog w 0 (fun _ => true) true 60 v0 d0 p0)
    (k1 : Value.okWide Try.prog w .any base 61 v1) (t1 : DataW.Trod enc Try.prog w 0 (fun _ => true) true 61 v1 d1 p1) :
    Calls Try.prog 5 #[v0, v1] w (fun e W' => e = .returned (.bool true) ∧ Below w.heap.size w W') := by
  obtain ⟨a0, n0, c0, rfl⟩ := WideShapes.okWide_slice Try.underlying60 k0
  obtain ⟨a1, n1, c1, rfl⟩ := WideShapes.okWide_slice Try.underlying61 k1
  obtain ⟨RI, hl, hI⟩ := bss_open t0
  obtain ⟨-, -, b3⟩ := bools_open t1
  exact walk0 a0 a1 n0 c0 n1 c1 RI w hl.symm hI b3
end raftAlone
end Go.Proofs.Ytdaecndbdinddaa
