/-
  THE LAW TupleBegins: the walk.
-/
import Derived.Test.YtacmidfcocjdjaaTRefCmp
namespace Go.Proofs.Ytacmidfcocjdjaa.tupleBegins
open Go.RowKit

theorem in_end {X Z : List UInt8} (h : endL X ≠ []) (hp : X <+: Z) : Op.bytesLess Z X = false ∧ Op.bytesLess Z (endL X) = true := by
  obtain ⟨h1, h2⟩ := (between X h Z).2 hp
  rw [less_eq, less_eq]
  exact ⟨decide_eq_false h1, decide_eq_true h2⟩

theorem out_end {X Z : List UInt8} (h : endL X ≠ []) (hp : ¬ X <+: Z) (h1 : Op.bytesLess Z X = false) : Op.bytesLess Z (endL X) = false := by
  rw [less_eq] at h1 ⊢
  refine decide_eq_false (fun h2 => hp ((between X h Z).1 ⟨fun e => ?_, h2⟩))
  rw [e] at h1
  simp at h1

theorem take_pre {a o : List Vl} (ha : ∀ v ∈ a, okV v ∧ inV v) (ho : ∀ v ∈ o, okV v ∧ inV v) (h : cmpVs (o.take a.length) a = 0) : a <+: o := by
  have e := cmpVs_eq (fun v hv => ho v (List.mem_of_mem_take hv)) ha h
  rw [← e]
  exact List.take_prefix _ _

set_option maxHeartbeats 16000000 in
set_option maxRecDepth 100000 in
theorem walk0 (aa : Option Addr) (la ca : Nat) (a : List Vl) (ab : Option Addr) (lb cb : Nat) (b : List Vl) (ao : Option Addr) (lo co : Nat) (o : List Vl) (w : World)
    (hxa : Vs w (.slice aa la ca) a) (hia : ∀ v ∈ a, inV v) (hxb : Vs w (.slice ab lb cb) b) (hib : ∀ v ∈ b, inV v) (hxo : Vs w (.slice ao lo co) o) (hio : ∀ v ∈ o, inV v) :
    Calls Try.prog 6 #[.slice aa la ca, .slice ab lb cb, .slice ao lo co] w (Ans w (.bool true)) := by
  obtain ⟨rfl, -, -⟩ := hxa.size
  obtain ⟨rfl, -, -⟩ := hxb.size
  obtain ⟨rfl, -, -⟩ := hxo.size
  have HA := hid hxa
  have HB := hid hxb
  have HO := hid hxo
  have HIA := hid hia
  have HIB := hid hib
  have HIO := hid hio
  have B0 := Below.refl w.heap.size w
  clear hxa hxb hxo hia hib hio
  by_cases ga : (∀ v ∈ a, okV v) ∧ a.length < 60
  case neg =>
    have CA := fun W h => right_from (w := w) (wr := W) h HA.out _ (good_false ga)
    clear ga
    go_enter Try.func6, Try.ntmps6
    go_wp2_with (first | (go_at_call 10; refine (awake_from (by assumption)).mono ?_; rintro e x1 ⟨rfl, B1⟩) | (go_at_call 26; refine (CA _ (by assumption)).mono ?_))
    rintro e x2 ⟨rfl, B2⟩
    go_wp2_with (first | (go_at_call 10; refine (awake_from (by assumption)).mono ?_; rintro e x1 ⟨rfl, B1⟩))
    go_ret
    exact ⟨rfl, by assumption⟩
  have CA := fun W h => right_from (w := w) (wr := W) h HA.out _ (good_true ga)
  by_cases gb : (∀ v ∈ b, okV v) ∧ b.length < 60
  case neg =>
    have CB := fun W h => right_from (w := w) (wr := W) h HB.out _ (good_false gb)
    clear ga gb
    go_enter Try.func6, Try.ntmps6
    go_wp2_with (first | (go_at_call 10; refine (awake_from (by assumption)).mono ?_; rintro e x1 ⟨rfl, B1⟩) | (go_at_call 26; refine (CA _ (by assumption)).mono ?_))
    rintro e x2 ⟨rfl, B2⟩
    go_wp2_with (first | (go_at_call 10; refine (awake_from (by assumption)).mono ?_; rintro e x1 ⟨rfl, B1⟩) | (go_at_call 26; refine (CB _ (by assumption)).mono ?_))
    rintro e x2 ⟨rfl, B2⟩
    go_wp2_with (first | (go_at_call 10; refine (awake_from (by assumption)).mono ?_; rintro e x1 ⟨rfl, B1⟩))
    go_ret
    exact ⟨rfl, by assumption⟩
  have CB := fun W h => right_from (w := w) (wr := W) h HB.out _ (good_true gb)
  by_cases go : (∀ v ∈ o, okV v) ∧ o.length < 60
  case neg =>
    have CO := fun W h => right_from (w := w) (wr := W) h HO.out _ (good_false go)
    clear ga gb go
    go_enter Try.func6, Try.ntmps6
    go_wp2_with (first | (go_at_call 10; refine (awake_from (by assumption)).mono ?_; rintro e x1 ⟨rfl, B1⟩) | (go_at_call 26; refine (CA _ (by assumption)).mono ?_))
    rintro e x2 ⟨rfl, B2⟩
    go_wp2_with (first | (go_at_call 10; refine (awake_from (by assumption)).mono ?_; rintro e x1 ⟨rfl, B1⟩) | (go_at_call 26; refine (CB _ (by assumption)).mono ?_))
    rintro e x2 ⟨rfl, B2⟩
    go_wp2_with (first | (go_at_call 10; refine (awake_from (by assumption)).mono ?_; rintro e x1 ⟨rfl, B1⟩) | (go_at_call 26; refine (CO _ (by assumption)).mono ?_))
    rintro e x2 ⟨rfl, B2⟩
    go_wp2_with (first | (go_at_call 10; refine (awake_from (by assumption)).mono ?_; rintro e x1 ⟨rfl, B1⟩))
    go_ret
    exact ⟨rfl, by assumption⟩
  have CO := fun W h => right_from (w := w) (wr := W) h HO.out _ (good_true go)
  have OA := hid ga.1
  have OB := hid gb.1
  have OO := hid go.1
  have l60a := ga.2
  have l60b := gb.2
  clear ga gb go
  by_cases h16 : 16 < a.length + b.length
  case pos =>
    go_enter Try.func6, Try.ntmps6
    go_wp2_with (first | (go_at_call 10; refine (awake_from (by assumption)).mono ?_; rintro e x1 ⟨rfl, B1⟩) | (go_at_call 26; refine (CA _ (by assumption)).mono ?_))
    rintro e x2 ⟨rfl, B2⟩
    go_wp2_with (first | (go_at_call 10; refine (awake_from (by assumption)).mono ?_; rintro e x1 ⟨rfl, B1⟩) | (go_at_call 26; refine (CB _ (by assumption)).mono ?_))
    rintro e x2 ⟨rfl, B2⟩
    go_wp2_with (first | (go_at_call 10; refine (awake_from (by assumption)).mono ?_; rintro e x1 ⟨rfl, B1⟩) | (go_at_call 26; refine (CO _ (by assumption)).mono ?_))
    rintro e x2 ⟨rfl, B2⟩
    go_wp2_with (first | (go_at_call 10; refine (awake_from (by assumption)).mono ?_; rintro e x1 ⟨rfl, B1⟩))
    go_ret
    exact ⟨rfl, by assumption⟩
  by_cases h16b : 16 < o.length
  case pos =>
    go_enter Try.func6, Try.ntmps6
    go_wp2_with (first | (go_at_call 10; refine (awake_from (by assumption)).mono ?_; rintro e x1 ⟨rfl, B1⟩) | (go_at_call 26; refine (CA _ (by assumption)).mono ?_))
    rintro e x2 ⟨rfl, B2⟩
    go_wp2_with (first | (go_at_call 10; refine (awake_from (by assumption)).mono ?_; rintro e x1 ⟨rfl, B1⟩) | (go_at_call 26; refine (CB _ (by assumption)).mono ?_))
    rintro e x2 ⟨rfl, B2⟩
    go_wp2_with (first | (go_at_call 10; refine (awake_from (by assumption)).mono ?_; rintro e x1 ⟨rfl, B1⟩) | (go_at_call 26; refine (CO _ (by assumption)).mono ?_))
    rintro e x2 ⟨rfl, B2⟩
    go_wp2_with (first | (go_at_call 10; refine (awake_from (by assumption)).mono ?_; rintro e x1 ⟨rfl, B1⟩))
    go_ret
    exact ⟨rfl, by assumption⟩
  by_cases h0 : a.length = 0
  case pos =>
    obtain rfl : a = [] := List.eq_nil_of_length_eq_zero h0
    have CA' : ∀ W, Below w.heap.size w W → Calls Try.prog 26 #[.slice aa 0 ca] W fun e w' => e = .returned (.bool true) ∧ Below w.heap.size w w' := CA
    clear CA h0
    show Calls Try.prog 6 #[.slice aa 0 ca, .slice ab b.length cb, .slice ao o.length co] w (Ans w (.bool true))
    simp only [List.length_nil] at h16
    go_enter Try.func6, Try.ntmps6
    go_wp2_with (first | (go_at_call 10; refine (awake_from (by assumption)).mono ?_; rintro e x1 ⟨rfl, B1⟩) | (go_at_call 26; refine (CA' _ (by assumption)).mono ?_))
    rintro e x2 ⟨rfl, B2⟩
    go_wp2_with (first | (go_at_call 10; refine (awake_from (by assumption)).mono ?_; rintro e x1 ⟨rfl, B1⟩) | (go_at_call 26; refine (CB _ (by assumption)).mono ?_))
    rintro e x2 ⟨rfl, B2⟩
    go_wp2_with (first | (go_at_call 10; refine (awake_from (by assumption)).mono ?_; rintro e x1 ⟨rfl, B1⟩) | (go_at_call 26; refine (CO _ (by assumption)).mono ?_))
    rintro e x2 ⟨rfl, B2⟩
    go_wp2_with (first | (go_at_call 10; refine (awake_from (by assumption)).mono ?_; rintro e x1 ⟨rfl, B1⟩))
    go_ret
    exact ⟨rfl, by assumption⟩
  have hab : a.length + b.length ≤ 16 := by omega
  have hlo : o.length ≤ 16 := by omega
  have h0' : ((a.length : Int) == 0) = false := beq_eq_false_iff_ne.2 (by omega)
  have H0 := hid h0
  have HAB := hid hab
  go_enter Try.func6, Try.ntmps6
  go_wp2_with (first | (go_at_call 10; refine (awake_from (by assumption)).mono ?_; rintro e x1 ⟨rfl, B1⟩) | (go_at_call 26; refine (CA _ (by assumption)).mono ?_))
  rintro e x2 ⟨rfl, B2⟩
  go_wp2_with (first | (go_at_call 10; refine (awake_from (by assumption)).mono ?_; rintro e x1 ⟨rfl, B1⟩) | (go_at_call 26; refine (CB _ (by assumption)).mono ?_))
  rintro e x2 ⟨rfl, B2⟩
  go_wp2_with (first | (go_at_call 10; refine (awake_from (by assumption)).mono ?_; rintro e x1 ⟨rfl, B1⟩) | (go_at_call 26; refine (CO _ (by assumption)).mono ?_))
  rintro e x2 ⟨rfl, B2⟩
  clear CA CB CO
  have C := enc_right _ a x2 (HA.out.old B2) HIA.out OA.out (by omega)
  have HB2 := hid B2
  go_wp2_with (first | (go_at_call 12; refine C.mono ?_))
  clear C
  rintro e x3 ⟨ao3, c3, rfl, o3, b3⟩
  have R3 := hid (Rd.own o3)
  have HB3 := hid (stepB HB2.out b3)
  clear o3 b3 B0 B1 B2
  have XA := hid (HA.out.old HB3.out)
  go_wp2_with (first
    | (at_builtin; refine wp_vapp rfl _ _ 22 rfl x3.heap.size 24 Try.underlying22 _ info_val (by decide) (.slice none 0 0) 0 [] rfl (World.ownsRow_nil _ _ _ _) _ a rfl XA.out ?c1 ?c2 ?_))
  case c1 => have := HAB.out; omega
  case c2 => exact Nat.le_refl _
  intro v4 x4 o4 g4
  have b4 : Below x3.heap.size x3 x4 := (Below.refl _ _).grown g4 (Nat.le_refl _) (fun k hk => by cases hk)
  have HO4 := hid o4
  have HB4 := hid (stepB HB3.out b4)
  have HX4 := hid b4
  have XB := hid (HB.out.old HB4.out)
  clear o4 g4 b4
  go_wp2_with (first
    | (at_builtin; refine wp_vapp rfl _ _ 22 rfl x3.heap.size 24 Try.underlying22 _ info_val (by decide) _ _ _ rfl HO4.out _ b rfl XB.out ?c1 ?c2 ?_))
  case c1 => have := HAB.out; omega
  case c2 => exact HX4.out.size
  intro v5 x5 o5 g5
  have b5 : Below x3.heap.size x3 x5 := HX4.out.grown g5 HX4.out.size (fun k hk => (HO4.out.lt k hk).1)
  have o5' : x5.ownsRow x3.heap.size 24 3 v5 (a ++ b).length (cellsL (a ++ b)) := by
    rw [cellsL_app]
    simpa using o5
  have V5 := hid (Vs.own o5')
  have R35 := hid (R3.out.old b5)
  have HB5 := hid (stepB HB3.out b5)
  have OAB : Hid (∀ v ∈ a ++ b, okV v) := fun v hv => by rcases List.mem_append.1 hv with h | h; exact OA.out v h; exact OB.out v h
  have IAB : Hid (∀ v ∈ a ++ b, inV v) := fun v hv => by rcases List.mem_append.1 hv with h | h; exact HIA.out v h; exact HIB.out v h
  have LAB : Hid ((a ++ b).length ≤ 16) := by show _ ≤ _; rw [List.length_append]; omega
  clear o5 g5 b5 o5' HO4 HX4 HB4 XA XB R3
  have C := enc_right _ (a ++ b) x5 V5.out IAB.out OAB.out LAB.out
  go_wp2_with (first | (go_at_call 12; refine C.mono ?_))
  clear C
  rintro e x6 ⟨ao6, c6, rfl, o6, b6⟩
  have R6 := hid (Rd.own o6)
  have R36 := hid (R35.out.old b6)
  have HB6 := hid (stepB HB5.out b6)
  clear o6 b6 V5 R35
  have C := enc_right _ o x6 (HO.out.old HB6.out) HIO.out OO.out hlo
  go_wp2_with (first | (go_at_call 12; refine C.mono ?_))
  clear C
  rintro e x7 ⟨ao7, c7, rfl, o7, b7⟩
  have R7 := hid (Rd.own o7)
  have R37 := hid (R36.out.old b7)
  have R67 := hid (R6.out.old b7)
  have HB7 := hid (stepB HB6.out b7)
  clear o7 b7 R36 R6
  have LXA := hid (encL_len OA.out)
  have C := end_any _ _ x7 R37.out (by have := LXA.out; have := HAB.out; omega)
  go_wp2_with (first | (go_at_call 21; refine C.mono ?_))
  clear C
  intro e x8 h8
  obtain ⟨ao8, c8, rfl, o8, b8⟩ := h8.elim
  have R8 := hid (Rd.own o8)
  have R38 := hid (R37.out.old b8)
  have R68 := hid (R67.out.old b8)
  have R78 := hid (R7.out.old b8)
  have HB8 := hid (stepB HB7.out b8)
  clear h8 o8 b8 R37 R67 R7 HB2 HB3 HB5 HB6 HB7
  have t1 := R38.out.conv (P := Try.prog) 27 9 5 Try.underlying27 Try.underlying5 Try.underlying9
  have t2 := R68.out.conv (P := Try.prog) 27 9 5 Try.underlying27 Try.underlying5 Try.underlying9
  have t3 := R78.out.conv (P := Try.prog) 27 9 5 Try.underlying27 Try.underlying5 Try.underlying9
  have t4 := R8.out.conv (P := Try.prog) 27 9 5 Try.underlying27 Try.underlying5 Try.underlying9
  have hgA : ∀ v ∈ a, okV v ∧ inV v := fun v hv => ⟨OA.out v hv, HIA.out v hv⟩
  have hgO : ∀ v ∈ o, okV v ∧ inV v := fun v hv => ⟨OO.out v hv, HIO.out v hv⟩
  have hne : a ≠ [] := fun e => H0.out (by rw [e]; rfl)
  have hen := endL_enc OA.out hne
  have HEN := hid hen
  have hy := in_end hen (show encL a <+: encL (a ++ b) by rw [encL_app]; exact List.prefix_append _ _)
  obtain ⟨hy1, hy2⟩ := hy
  have HGA := hid hgA
  have HGO := hid hgO
  have HPR := hid (enc_pre hgA hgO)
  clear hgA hgO hne hen hab l60a l60b h16
  have b0 := Below.refl x8.heap.size x8
  by_cases hp : a <+: o
  · have hzz := in_end HEN.out (HPR.out.2 hp)
    obtain ⟨hz1, hz2⟩ := hzz
    have hlen : a.length ≤ o.length := hp.length_le
    have hmin : min (a.length : Int) (o.length : Int) = (a.length : Int) := by omega
    have htk : o.take a.length = a := (List.prefix_iff_eq_take.1 hp).symm
    obtain ⟨ao9, c9, hs9, hv9, -⟩ := (HO.out.old HB8.out).head (P := Try.prog) 22 24 Try.underlying22 (by kernel_rfl) a.length hlen
    have hs9' := fun W => hs9 .i64 W
    rw [htk] at hv9
    have C := rcmp_any _ _ a a x8 hv9 (HA.out.old HB8.out) OA.out OA.out
    rw [cmpVs_self] at C
    clear hs9 hv9 htk hp
    go_wp2_with (first | (go_at_call 28; refine C.mono ?_))
    rintro e x9 ⟨rfl, b9⟩
    have s1 := (R38.out.old b9).conv (P := Try.prog) 27 9 5 Try.underlying27 Try.underlying5 Try.underlying9
    have s3 := (R78.out.old b9).conv (P := Try.prog) 27 9 5 Try.underlying27 Try.underlying5 Try.underlying9
    have s4 := (R8.out.old b9).conv (P := Try.prog) 27 9 5 Try.underlying27 Try.underlying5 Try.underlying9
    have HB9 := hid (stepB HB8.out b9)
    clear b9 t1 t2 t3 t4 C
    go_wp2_with fail
    go_ret
    exact ⟨rfl, HB9.out⟩
  · have hnp : ¬ encL a <+: encL o := fun h => hp (HPR.out.1 h)
    have HOUT := hid (out_end HEN.out hnp)
    clear hnp
    by_cases hlen : a.length ≤ o.length
    · have hmin : min (a.length : Int) (o.length : Int) = (a.length : Int) := by omega
      obtain ⟨ao9, c9, hs9, hv9, -⟩ := (HO.out.old HB8.out).head (P := Try.prog) 22 24 Try.underlying22 (by kernel_rfl) a.length hlen
      have hs9' := fun W => hs9 .i64 W
      have C := rcmp_any _ _ (o.take a.length) a x8 hv9 (HA.out.old HB8.out) (fun v hv => OO.out v (List.mem_of_mem_take hv)) OA.out
      have hcn : ¬ cmpVs (o.take a.length) a = 0 := fun h => hp (take_pre HGA.out HGO.out h)
      generalize cmpVs (o.take a.length) a = t at *
      have hcn' : (t == 0) = false := by simp [hcn]
      clear hs9 hv9 hp hcn
      go_wp2_with (first | (go_at_call 28; refine C.mono ?_))
      rintro e x9 ⟨rfl, b9⟩
      have s1 := (R38.out.old b9).conv (P := Try.prog) 27 9 5 Try.underlying27 Try.underlying5 Try.underlying9
      have s3 := (R78.out.old b9).conv (P := Try.prog) 27 9 5 Try.underlying27 Try.underlying5 Try.underlying9
      have s4 := (R8.out.old b9).conv (P := Try.prog) 27 9 5 Try.underlying27 Try.underlying5 Try.underlying9
      have HB9 := hid (stepB HB8.out b9)
      clear b9 t1 t2 t3 t4 C
      cases hl : Op.bytesLess (encL o) (encL a) with
      | true =>
        go_wp2_with fail
        go_ret
        exact ⟨rfl, HB9.out⟩
      | false =>
        have hl2 := HOUT.out hl
        go_wp2_with fail
        go_ret
        exact ⟨rfl, HB9.out⟩
    · have hlt : o.length < a.length := by omega
      clear hp
      cases hl : Op.bytesLess (encL o) (encL a) with
      | true =>
        go_wp2_with fail
        go_ret
        exact ⟨rfl, HB8.out⟩
      | false =>
        have hl2 := HOUT.out hl
        go_wp2_with fail
        go_ret
        exact ⟨rfl, HB8.out⟩

theorem walk {H : Type} {enc : TypeId × Value → H} {base : Nat} {d0 d1 d2 : DataW H} {p0 p1 p2 : List MemPlace} (v0 v1 v2 : Value) (w : World)
    (k0 : Value.okWide Try.prog w .any base 22 v0) (t0 : DataW.Trod enc Try.prog w 0 (fun _ => true) true 22 v0 d0 p0)
    (k1 : Value.okWide Try.prog w .any base 22 v1) (t1 : DataW.Trod enc Try.prog w 0 (fun _ => true) true 22 v1 d1 p1)
    (k2 : Value.okWide Try.prog w .any base 22 v2) (t2 : DataW.Trod enc Try.prog w 0 (fun _ => true) true 22 v2 d2 p2) :
    Calls Try.prog 6 #[v0, v1, v2] w fun e w' => e = .returned (.bool true) ∧ Below w.heap.size w w' := by
  obtain ⟨a, len, cap, rfl⟩ := WideShapes.okWide_slice Try.underlying22 k0
  obtain ⟨l, -, hx, hin⟩ := vals_open t0
  obtain ⟨a2, len2, cap2, rfl⟩ := WideShapes.okWide_slice Try.underlying22 k1
  obtain ⟨l2, -, hx2, hin2⟩ := vals_open t1
  obtain ⟨a3, len3, cap3, rfl⟩ := WideShapes.okWide_slice Try.underlying22 k2
  obtain ⟨l3, -, hx3, hin3⟩ := vals_open t2
  exact walk0 a len cap l a2 len2 cap2 l2 a3 len3 cap3 l3 w hx hin hx2 hin2 hx3 hin3
end Go.Proofs.Ytacmidfcocjdjaa.tupleBegins
