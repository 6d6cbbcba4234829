/-
  THE LAW TupleReads: the walk.
-/
import Derived.Test.YtacmidfcocjdjaaTRefDec
import Derived.Test.YtacmidfcocjdjaaTOwnB
import Derived.Test.YtacmidfcocjdjaaTOwnV
import Derived.Test.YtacmidfcocjdjaaTBegins
import Derived.Test.YtacmidfcocjdjaaLaw
namespace Go.Proofs.Ytacmidfcocjdjaa.tupleReads
open Go.RowKit

theorem stepB {w w1 w2 : World} (h : Below w.heap.size w w1) (g : Below w1.heap.size w1 w2) : Below w.heap.size w w2 := h.trans (g.mono h.size)

theorem decN_is (l : List UInt8) : (decE l = 0 → decN l = l.length) ∧ (decE l ≠ 0 → decN l = 0) :=
  ⟨fun h => by unfold decN; rw [if_pos h], fun h => by unfold decN; rw [if_neg h]⟩

set_option maxHeartbeats 8000000 in
set_option maxRecDepth 100000 in
theorem walk (a0 : Option Addr) (len0 cap0 : Nat) (z0 : List Int) (w : World) (w0 : IsRow .u8 w a0 len0 cap0 z0) (b0 : cap0 * 1 ≤ 140737488351232) :
    Calls Try.prog 4 #[.slice a0 len0 cap0] w fun e w' => e = .returned (.bool true) ∧ Below w.heap.size w w' := by
  obtain ⟨l, rfl, hr⟩ := rd_of_row w0
  have HR := hid hr
  have B0 := Below.refl w.heap.size w
  clear w0 b0 hr
  by_cases hbig : 3000 < l.length
  · go_enter Try.func4, Try.ntmps4
    go_wp2_with (first | (go_at_call 10; refine (awake_from (by assumption)).mono ?_; rintro e x1 ⟨rfl, B1⟩))
    go_ret
    exact ⟨rfl, by assumption⟩
  have hl : l.length ≤ 3000 := by omega
  have HL := hid hl
  go_enter Try.func4, Try.ntmps4
  have C := own_any _ l 71 w HR.out (by omega)
  go_wp2_with (first | (go_at_call 18; refine C.mono ?_))
  clear C
  rintro e x1 ⟨g, rfl, hg, o1, B1⟩
  have HO1 := hid o1
  have HB1 := hid B1
  have HG : Hid (w.heap.size ≤ g) := hg
  have R1 : Hid (Rd x1 (.slice (some ⟨g, 0, none⟩) l.length (l.length + 3)) l) := Rd.of_full o1 (by omega) (by rw [List.take_left' (by simp)]) rfl
  clear o1 hg B1 B0
  have C := dec_any _ l x1 R1.out (by omega)
  go_wp2_with (first | (go_at_call 19; refine C.mono ?_))
  clear C
  intro e x2 h2
  obtain ⟨ao2, c2, rfl, o2, B2⟩ := h2.elim
  have V2 := hid (Vs.own o2)
  have HO2 := hid (own_old HO1.out B2)
  have R2 := hid (R1.out.old B2)
  have HB2 := hid (stepB HB1.out B2)
  clear h2 o2 B2 HO1 R1 HB1
  have C := rdec_any _ l x2 (HR.out.old HB2.out) (by omega)
  go_wp2_with (first | (go_at_call 20; refine C.mono ?_))
  clear C
  intro e x3 h3
  obtain ⟨y3, rfl, o3, B3⟩ := h3
  have V3 := hid (Vs.own o3)
  have V23 := hid (V2.out.old B3)
  have HO3 := hid (own_old HO2.out B3)
  have R3 := hid (R2.out.old B3)
  have HB3 := hid (stepB HB2.out B3)
  clear o3 B3 HO2 R2 HB2 V2
  have C := end_any _ l x3 R3.out (by omega)
  go_wp2_with (first | (go_at_call 21; refine C.mono ?_))
  clear C
  intro e x4 h4
  obtain ⟨y4, rfl, o4, B4⟩ := h4
  have E4 := hid o4
  have V24 := hid (V23.out.old B4)
  have V34 := hid (V3.out.old B4)
  have HO4 := hid (own_old HO3.out B4)
  have HX4 := hid B4
  have HB4 := hid (stepB HB3.out B4)
  clear o4 B4 R3 V23 V3
  have C := awake_any x4
  go_wp2_with (first | (go_at_call 10; refine C.mono ?_))
  clear C
  rintro e x5 ⟨rfl, B5⟩
  have E5 := hid (own_old E4.out B5)
  have V25 := hid (V24.out.old B5)
  have V35 := hid (V34.out.old B5)
  have HO5 := hid (own_old HO4.out B5)
  have HX5 := hid (HX4.out.trans (B5.mono HX4.out.size))
  have HB5 := hid (stepB HB4.out B5)
  clear B5 HO4 E4 V24 V34 HX4 HB4
  have hn := decN_is l
  generalize decE l = dE at *
  generalize decN l = dN at *
  generalize decO l = dO at *
  have C := vplain_eq _ _ dO x5 V25.out V35.out
  have HN := hid hn
  clear hn
  go_wp2_with (first | (go_at_call 22; refine C.mono ?_))
  clear C
  rintro e x6 ⟨rfl, B6⟩
  have E6 := hid (own_old E5.out B6)
  have HO6 := hid (own_old HO5.out B6)
  have HX6 := hid (HX5.out.trans (B6.mono HX5.out.size))
  have HB6 := hid (stepB HB5.out B6)
  clear B6 HO5 E5 V25 V35 HX5 HB5
  have C := rend_any _ l x6 (HR.out.old HB6.out) (by omega)
  have hlen0 := HR.out.len (P := Try.prog) 27 5
  by_cases hz : dE = 0
  · have hdn := HN.out.1 hz
    subst hz
    subst hdn
    go_wp2_with (first | (go_at_call 23; refine C.mono ?_))
    clear C
    rintro e x7 ⟨y7, rfl, o7, B7⟩
    have E7 := hid (own_old E6.out B7)
    have HX7 := hid (HX6.out.trans (B7.mono HX6.out.size))
    have RE7 := hid (Rd.own o7)
    have RX7 := hid (Rd.own E7.out)
    clear o7 B7 E6 HX6 HO6
    have C := bytes_any _ _ _ _ x7 RX7.out RE7.out
    go_wp2_with (first | (go_at_call 14; refine C.mono ?_))
    clear C
    rintro e x8 ⟨rfl, rfl⟩
    rw [show (endL l == endL l) = true from by simp]
    have C := kept_any _ l 71 x7 g w.heap.size (HR.out.old (stepB HB3.out HX7.out)) (by omega) (own_old HO3.out HX7.out)
    go_wp2_with (first | (go_at_call 24; refine C.mono ?_))
    clear C
    rintro e x8 hd
    have B8 := hd.below
    obtain ⟨rfl, -⟩ := hd
    have E8 := hid (own_old E7.out B8)
    have HX8 := hid (HX7.out.trans (B8.mono HX7.out.size))
    clear B8 E7 HX7 RE7 RX7
    have C := spoil_own x8 _ y4 (endL l) E8.out (by have := endL_len l; omega)
    go_wp2_with (first | (go_at_call 25; refine C.mono ?_))
    clear C
    rintro e x9 ⟨rfl, g9⟩
    have HX9 := hid (HX8.out.grown g9 HX8.out.size (fun k hk => (E8.out.lt k hk).1))
    clear g9 E8 HX8
    have C := kept_any _ l 71 x9 g w.heap.size (HR.out.old (stepB HB3.out HX9.out)) (by omega) (own_old HO3.out HX9.out)
    go_wp2_with (first | (go_at_call 24; refine C.mono ?_))
    clear C
    rintro e x10 hd
    have B10 := hd.below
    obtain ⟨rfl, -⟩ := hd
    have HB10 := hid (stepB (stepB HB3.out HX9.out) B10)
    clear B10
    go_wp2_with fail
    go_ret
    exact ⟨rfl, HB10.out⟩
  · have hdn := HN.out.2 hz
    subst hdn
    have hz' : (dE == 0) = false := beq_eq_false_iff_ne.2 hz
    go_wp2_with (first | (go_at_call 23; refine C.mono ?_))
    clear C
    rintro e x7 ⟨y7, rfl, o7, B7⟩
    have E7 := hid (own_old E6.out B7)
    have HX7 := hid (HX6.out.trans (B7.mono HX6.out.size))
    have RE7 := hid (Rd.own o7)
    have RX7 := hid (Rd.own E7.out)
    clear o7 B7 E6 HX6 HO6
    have C := bytes_any _ _ _ _ x7 RX7.out RE7.out
    go_wp2_with (first | (go_at_call 14; refine C.mono ?_))
    clear C
    rintro e x8 ⟨rfl, rfl⟩
    rw [show (endL l == endL l) = true from by simp]
    have C := kept_any _ l 71 x7 g w.heap.size (HR.out.old (stepB HB3.out HX7.out)) (by omega) (own_old HO3.out HX7.out)
    go_wp2_with (first | (go_at_call 24; refine C.mono ?_))
    clear C
    rintro e x8 hd
    have B8 := hd.below
    obtain ⟨rfl, -⟩ := hd
    have E8 := hid (own_old E7.out B8)
    have HX8 := hid (HX7.out.trans (B8.mono HX7.out.size))
    clear B8 E7 HX7 RE7 RX7
    have C := spoil_own x8 _ y4 (endL l) E8.out (by have := endL_len l; omega)
    go_wp2_with (first | (go_at_call 25; refine C.mono ?_))
    clear C
    rintro e x9 ⟨rfl, g9⟩
    have HX9 := hid (HX8.out.grown g9 HX8.out.size (fun k hk => (E8.out.lt k hk).1))
    clear g9 E8 HX8
    have C := kept_any _ l 71 x9 g w.heap.size (HR.out.old (stepB HB3.out HX9.out)) (by omega) (own_old HO3.out HX9.out)
    go_wp2_with (first | (go_at_call 24; refine C.mono ?_))
    clear C
    rintro e x10 hd
    have B10 := hd.below
    obtain ⟨rfl, -⟩ := hd
    have HB10 := hid (stepB (stepB HB3.out HX9.out) B10)
    clear B10
    go_wp2_with fail
    go_ret
    exact ⟨rfl, HB10.out⟩
end Go.Proofs.Ytacmidfcocjdjaa.tupleReads
