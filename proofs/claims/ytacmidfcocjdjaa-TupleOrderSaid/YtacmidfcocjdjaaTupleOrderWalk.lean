/-
  THE LAW TupleOrder: the walk.
-/
import Derived.Test.YtacmidfcocjdjaaTRefCmp
namespace Go.Proofs.Ytacmidfcocjdjaa.tupleOrder
open Go.RowKit

set_option maxHeartbeats 8000000 in
set_option maxRecDepth 100000 in
theorem walk0 (aa : Option Addr) (la ca : Nat) (a : List Vl) (ab : Option Addr) (lb cb : Nat) (b : List Vl) (w : World) (hxa : Vs w (.slice aa la ca) a) (hia : ∀ v ∈ a, inV v) (hxb : Vs w (.slice ab lb cb) b) (hib : ∀ v ∈ b, inV v) :
    Calls Try.prog 5 #[.slice aa la ca, .slice ab lb cb] w (Ans w (.bool true)) := by
  obtain ⟨rfl, ha1, ha2⟩ := hxa.size
  obtain ⟨rfl, hb1, hb2⟩ := hxb.size
  have HA := hid hxa
  have HB := hid hxb
  have HIA := hid hia
  have HIB := hid hib
  have B0 := Below.refl w.heap.size w
  clear hxa hxb hia hib ha1 ha2 hb1 hb2
  by_cases ga : (∀ v ∈ a, okV v) ∧ a.length < 60
  case neg =>
    have CA := fun W h => right_from (w := w) (wr := W) h HA.out _ (good_false ga)
    clear ga
    go_enter Try.func5, Try.ntmps5
    go_wp2_with (first | (go_at_call 10; refine (awake_from (by assumption)).mono ?_; rintro e x1 ⟨rfl, B1⟩) | (go_at_call 26; refine (CA _ (by assumption)).mono ?_))
    rintro e x2 ⟨rfl, B2⟩
    go_wp2_with (first | (go_at_call 10; refine (awake_from (by assumption)).mono ?_; rintro e x1 ⟨rfl, B1⟩))
    go_ret
    exact ⟨rfl, by assumption⟩
  have CA := fun W h => right_from (w := w) (wr := W) h HA.out _ (good_true ga)
  by_cases gb : (∀ v ∈ b, okV v) ∧ b.length < 60
  case neg =>
    have CB := fun W h => right_from (w := w) (wr := W) h HB.out _ (good_false gb)
    clear ga gb
    go_enter Try.func5, Try.ntmps5
    go_wp2_with (first | (go_at_call 10; refine (awake_from (by assumption)).mono ?_; rintro e x1 ⟨rfl, B1⟩) | (go_at_call 26; refine (CA _ (by assumption)).mono ?_))
    rintro e x2 ⟨rfl, B2⟩
    go_wp2_with (first | (go_at_call 10; refine (awake_from (by assumption)).mono ?_; rintro e x1 ⟨rfl, B1⟩) | (go_at_call 26; refine (CB _ (by assumption)).mono ?_))
    rintro e x2 ⟨rfl, B2⟩
    go_wp2_with (first | (go_at_call 10; refine (awake_from (by assumption)).mono ?_; rintro e x1 ⟨rfl, B1⟩))
    go_ret
    exact ⟨rfl, by assumption⟩
  have CB := fun W h => right_from (w := w) (wr := W) h HB.out _ (good_true gb)
  have OA := hid ga.1
  have OB := hid gb.1
  clear ga gb
  by_cases h16 : 16 < a.length
  case pos =>
    go_enter Try.func5, Try.ntmps5
    go_wp2_with (first | (go_at_call 10; refine (awake_from (by assumption)).mono ?_; rintro e x1 ⟨rfl, B1⟩) | (go_at_call 26; refine (CA _ (by assumption)).mono ?_))
    rintro e x2 ⟨rfl, B2⟩
    go_wp2_with (first | (go_at_call 10; refine (awake_from (by assumption)).mono ?_; rintro e x1 ⟨rfl, B1⟩) | (go_at_call 26; refine (CB _ (by assumption)).mono ?_))
    rintro e x2 ⟨rfl, B2⟩
    go_wp2_with (first | (go_at_call 10; refine (awake_from (by assumption)).mono ?_; rintro e x1 ⟨rfl, B1⟩))
    go_ret
    exact ⟨rfl, by assumption⟩
  by_cases h16b : 16 < b.length
  case pos =>
    go_enter Try.func5, Try.ntmps5
    go_wp2_with (first | (go_at_call 10; refine (awake_from (by assumption)).mono ?_; rintro e x1 ⟨rfl, B1⟩) | (go_at_call 26; refine (CA _ (by assumption)).mono ?_))
    rintro e x2 ⟨rfl, B2⟩
    go_wp2_with (first | (go_at_call 10; refine (awake_from (by assumption)).mono ?_; rintro e x1 ⟨rfl, B1⟩) | (go_at_call 26; refine (CB _ (by assumption)).mono ?_))
    rintro e x2 ⟨rfl, B2⟩
    go_wp2_with (first | (go_at_call 10; refine (awake_from (by assumption)).mono ?_; rintro e x1 ⟨rfl, B1⟩))
    go_ret
    exact ⟨rfl, by assumption⟩
  have hla : a.length ≤ 16 := by omega
  have hlb : b.length ≤ 16 := by omega
  go_enter Try.func5, Try.ntmps5
  go_wp2_with (first | (go_at_call 10; refine (awake_from (by assumption)).mono ?_; rintro e x1 ⟨rfl, B1⟩) | (go_at_call 26; refine (CA _ (by assumption)).mono ?_))
  rintro e x2 ⟨rfl, B2⟩
  go_wp2_with (first | (go_at_call 10; refine (awake_from (by assumption)).mono ?_; rintro e x1 ⟨rfl, B1⟩) | (go_at_call 26; refine (CB _ (by assumption)).mono ?_))
  rintro e x2 ⟨rfl, B2⟩
  clear CA CB
  have C := enc_right _ a x2 (HA.out.old B2) HIA.out OA.out hla
  have HB2 := hid B2
  go_wp2_with (first | (go_at_call 12; refine C.mono ?_))
  clear C
  rintro e x3 ⟨ao3, c3, rfl, o3, b3⟩
  have R3 := hid (Rd.own o3)
  have HB3 := hid (stepB HB2.out b3)
  clear o3 b3
  have C := enc_right _ b x3 (HB.out.old HB3.out) HIB.out OB.out hlb
  go_wp2_with (first | (go_at_call 12; refine C.mono ?_))
  clear C
  rintro e x4 ⟨ao4, c4, rfl, o4, b4⟩
  have R4 := hid (Rd.own o4)
  have R34 := hid (R3.out.old b4)
  have HB4 := hid (stepB HB3.out b4)
  clear o4 b4 R3
  have C := dec_right _ a x4 R34.out HIA.out OA.out hla
  go_wp2_with (first | (go_at_call 19; refine C.mono ?_))
  clear C
  rintro e x5 ⟨ao5, c5, rfl, o5, b5⟩
  have V5 := hid (Vs.own o5)
  have R35 := hid (R34.out.old b5)
  have R45 := hid (R4.out.old b5)
  have HB5 := hid (stepB HB4.out b5)
  clear o5 b5 R34 R4 HB2 HB3 HB4 B1 B2 B0
  have t1 := R35.out.conv (P := Try.prog) 27 9 5 Try.underlying27 Try.underlying5 Try.underlying9
  have t2 := R45.out.conv (P := Try.prog) 27 9 5 Try.underlying27 Try.underlying5 Try.underlying9
  have hcm := enc_cmp a b (fun v hv => ⟨OA.out v hv, HIA.out v hv⟩) (fun v hv => ⟨OB.out v hv, HIB.out v hv⟩)
  have hcm2 := enc_cmp b a (fun v hv => ⟨OB.out v hv, HIB.out v hv⟩) (fun v hv => ⟨OA.out v hv, HIA.out v hv⟩)
  have hsw := cb_swap (encL a) (encL b)
  rw [hcm, hcm2] at hsw
  have hl1 := less_eq (encL a) (encL b)
  have hl2 := beq_eq (encL a) (encL b)
  rw [hcm] at hl1 hl2
  have htri := cb_tri (encL a) (encL b)
  rw [hcm] at htri
  have K1 : Hid (∀ W, Below x5.heap.size x5 W → Calls Try.prog 22 #[.slice ao5 a.length c5, .slice aa a.length ca] W fun e w' => e = .returned (.bool true) ∧ Below x5.heap.size x5 w') := fun W hW =>
    (vplain_eq _ _ a W (V5.out.old hW) (HA.out.old (HB5.out.trans (hW.mono HB5.out.size)))).mono fun e w' ⟨h1, h2⟩ => ⟨h1, stepB hW h2⟩
  have K2 : Hid (∀ W, Below x5.heap.size x5 W → Calls Try.prog 27 #[.slice aa a.length ca, .slice ab b.length cb] W fun e w' => e = .returned (.int .i64 (cmpVs a b)) ∧ Below x5.heap.size x5 w') := fun W hW =>
    (cmp_any _ _ a b W (HA.out.old (HB5.out.trans (hW.mono HB5.out.size))) (HB.out.old (HB5.out.trans (hW.mono HB5.out.size)))).mono fun e w' ⟨h1, h2⟩ => ⟨h1, stepB hW h2⟩
  have K3 : Hid (∀ W, Below x5.heap.size x5 W → Calls Try.prog 28 #[.slice aa a.length ca, .slice ab b.length cb] W fun e w' => e = .returned (.int .i64 (cmpVs a b)) ∧ Below x5.heap.size x5 w') := fun W hW =>
    (rcmp_any _ _ a b W (HA.out.old (HB5.out.trans (hW.mono HB5.out.size))) (HB.out.old (HB5.out.trans (hW.mono HB5.out.size))) OA.out OB.out).mono fun e w' ⟨h1, h2⟩ => ⟨h1, stepB hW h2⟩
  have K4 : Hid (∀ W, Below x5.heap.size x5 W → Calls Try.prog 27 #[.slice ab b.length cb, .slice aa a.length ca] W fun e w' => e = .returned (.int .i64 (cmpVs b a)) ∧ Below x5.heap.size x5 w') := fun W hW =>
    (cmp_any _ _ b a W (HB.out.old (HB5.out.trans (hW.mono HB5.out.size))) (HA.out.old (HB5.out.trans (hW.mono HB5.out.size)))).mono fun e w' ⟨h1, h2⟩ => ⟨h1, stepB hW h2⟩
  have b0 := Below.refl x5.heap.size x5
  clear hcm hcm2
  rw [hsw] at K4
  clear hsw
  generalize cmpVs a b = t at *
  rcases htri with rfl | rfl | rfl
  · have hl1' : Op.bytesLess (encL a) (encL b) = true := hl1
    have hl2' : (encL a == encL b) = false := hl2
    clear hl1 hl2
    go_wp2_with (first | (go_at_call 22; refine (K1.out _ b0).mono ?_))
    rintro e x6 ⟨rfl, b6⟩
    go_wp2_with (first | (go_at_call 27; refine (K2.out _ b6).mono ?_))
    rintro e x7 ⟨rfl, b7⟩
    go_wp2_with (first | (go_at_call 28; refine (K3.out _ b7).mono ?_))
    rintro e x8 ⟨rfl, b8⟩
    go_wp2_with (first | (go_at_call 27; refine (K4.out _ b8).mono ?_))
    rintro e x9 ⟨rfl, b9⟩
    go_wp2_with fail
    go_ret
    exact ⟨rfl, stepB HB5.out b9⟩
  · have hl1' : Op.bytesLess (encL a) (encL b) = false := hl1
    have hl2' : (encL a == encL b) = true := hl2
    clear hl1 hl2
    go_wp2_with (first | (go_at_call 22; refine (K1.out _ b0).mono ?_))
    rintro e x6 ⟨rfl, b6⟩
    go_wp2_with (first | (go_at_call 27; refine (K2.out _ b6).mono ?_))
    rintro e x7 ⟨rfl, b7⟩
    go_wp2_with (first | (go_at_call 28; refine (K3.out _ b7).mono ?_))
    rintro e x8 ⟨rfl, b8⟩
    go_wp2_with (first | (go_at_call 27; refine (K4.out _ b8).mono ?_))
    rintro e x9 ⟨rfl, b9⟩
    go_wp2_with fail
    go_ret
    exact ⟨rfl, stepB HB5.out b9⟩
  · have hl1' : Op.bytesLess (encL a) (encL b) = false := hl1
    have hl2' : (encL a == encL b) = false := hl2
    clear hl1 hl2
    go_wp2_with (first | (go_at_call 22; refine (K1.out _ b0).mono ?_))
    rintro e x6 ⟨rfl, b6⟩
    go_wp2_with (first | (go_at_call 27; refine (K2.out _ b6).mono ?_))
    rintro e x7 ⟨rfl, b7⟩
    go_wp2_with (first | (go_at_call 28; refine (K3.out _ b7).mono ?_))
    rintro e x8 ⟨rfl, b8⟩
    go_wp2_with (first | (go_at_call 27; refine (K4.out _ b8).mono ?_))
    rintro e x9 ⟨rfl, b9⟩
    go_wp2_with fail
    go_ret
    exact ⟨rfl, stepB HB5.out b9⟩

theorem walk {H : Type} {enc : TypeId × Value → H} {base : Nat} {d0 d1 : DataW H} {p0 p1 : List MemPlace} (v0 v1 : Value) (w : World)
    (k0 : Value.okWide Try.prog w .any base 22 v0) (t0 : DataW.Trod enc Try.prog w 0 (fun _ => true) true 22 v0 d0 p0)
    (k1 : Value.okWide Try.prog w .any base 22 v1) (t1 : DataW.Trod enc Try.prog w 0 (fun _ => true) true 22 v1 d1 p1) :
    Calls Try.prog 5 #[v0, v1] w fun e w' => e = .returned (.bool true) ∧ Below w.heap.size w w' := by
  obtain ⟨a, len, cap, rfl⟩ := WideShapes.okWide_slice Try.underlying22 k0
  obtain ⟨l, -, hx, hin⟩ := vals_open t0
  obtain ⟨a2, len2, cap2, rfl⟩ := WideShapes.okWide_slice Try.underlying22 k1
  obtain ⟨l2, -, hx2, hin2⟩ := vals_open t1
  exact walk0 a len cap l a2 len2 cap2 l2 w hx hin hx2 hin2
end Go.Proofs.Ytacmidfcocjdjaa.tupleOrder
