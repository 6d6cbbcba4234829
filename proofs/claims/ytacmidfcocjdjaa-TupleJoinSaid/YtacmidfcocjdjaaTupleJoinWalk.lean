/-
  THE LAW TupleJoin: the walk.
-/
import Derived.Test.YtacmidfcocjdjaaTLaw2
namespace Go.Proofs.Ytacmidfcocjdjaa.tupleJoin
open Go.RowKit

set_option maxHeartbeats 8000000 in
set_option maxRecDepth 100000 in
theorem walk0 (aa : Option Addr) (la ca : Nat) (a : List Vl) (ab : Option Addr) (lb cb : Nat) (b : List Vl) (w : World) (hxa : Vs w (.slice aa la ca) a) (hia : ∀ v ∈ a, inV v) (hxb : Vs w (.slice ab lb cb) b) (hib : ∀ v ∈ b, inV v) :
    Calls Try.prog 7 #[.slice aa la ca, .slice ab lb cb] w (Ans w (.bool true)) := by
  obtain ⟨rfl, ha1, ha2⟩ := hxa.size
  obtain ⟨rfl, hb1, hb2⟩ := hxb.size
  have hma : a.length ≤ maxLen := by omega
  have hmb : b.length ≤ maxLen := by omega
  unfold maxLen at hma hmb
  have HA := hid hxa
  have HB := hid hxb
  have HIA := hid hia
  have HIB := hid hib
  have B0 := Below.refl w.heap.size w
  clear hxa hxb hia hib ha1 ha2 hb1 hb2
  by_cases ga : (∀ v ∈ a, okV v) ∧ a.length < 60
  case neg =>
    have CA := fun W h => right_from (w := w) (wr := W) h HA.out _ (good_false ga)
    clear ga
    go_enter Try.func7, Try.ntmps7
    go_wp2_with (first | (go_at_call 10; refine (awake_from (by assumption)).mono ?_; rintro e x1 ⟨rfl, B1⟩) | (go_at_call 26; refine (CA _ (by assumption)).mono ?_))
    rintro e x2 ⟨rfl, B2⟩
    go_wp2_with (first | (go_at_call 10; refine (awake_from (by assumption)).mono ?_; rintro e x1 ⟨rfl, B1⟩))
    go_ret
    exact ⟨rfl, by assumption⟩
  have CA := fun W h => right_from (w := w) (wr := W) h HA.out _ (good_true ga)
  by_cases gb : (∀ v ∈ b, okV v) ∧ b.length < 60
  case neg =>
    have CB := fun W h => right_from (w := w) (wr := W) h HB.out _ (good_false gb)
    clear ga gb
    go_enter Try.func7, Try.ntmps7
    go_wp2_with (first | (go_at_call 10; refine (awake_from (by assumption)).mono ?_; rintro e x1 ⟨rfl, B1⟩) | (go_at_call 26; refine (CA _ (by assumption)).mono ?_))
    rintro e x2 ⟨rfl, B2⟩
    go_wp2_with (first | (go_at_call 10; refine (awake_from (by assumption)).mono ?_; rintro e x1 ⟨rfl, B1⟩) | (go_at_call 26; refine (CB _ (by assumption)).mono ?_))
    rintro e x2 ⟨rfl, B2⟩
    go_wp2_with (first | (go_at_call 10; refine (awake_from (by assumption)).mono ?_; rintro e x1 ⟨rfl, B1⟩))
    go_ret
    exact ⟨rfl, by assumption⟩
  have CB := fun W h => right_from (w := w) (wr := W) h HB.out _ (good_true gb)
  have OA := hid ga.1
  have OB := hid gb.1
  by_cases h16 : 16 < a.length + b.length
  case pos =>
    have hl1 := ga.2
    have hl2 := gb.2
    clear ga gb
    go_enter Try.func7, Try.ntmps7
    go_wp2_with (first | (go_at_call 10; refine (awake_from (by assumption)).mono ?_; rintro e x1 ⟨rfl, B1⟩) | (go_at_call 26; refine (CA _ (by assumption)).mono ?_))
    rintro e x2 ⟨rfl, B2⟩
    go_wp2_with (first | (go_at_call 10; refine (awake_from (by assumption)).mono ?_; rintro e x1 ⟨rfl, B1⟩) | (go_at_call 26; refine (CB _ (by assumption)).mono ?_))
    rintro e x2 ⟨rfl, B2⟩
    go_wp2_with (first | (go_at_call 10; refine (awake_from (by assumption)).mono ?_; rintro e x1 ⟨rfl, B1⟩))
    go_ret
    exact ⟨rfl, by assumption⟩
  have hab : a.length + b.length ≤ 16 := by omega
  have HAB := hid hab
  clear ga gb hma hmb
  go_enter Try.func7, Try.ntmps7
  go_wp2_with (first | (go_at_call 10; refine (awake_from (by assumption)).mono ?_; rintro e x1 ⟨rfl, B1⟩) | (go_at_call 26; refine (CA _ (by assumption)).mono ?_))
  rintro e x2 ⟨rfl, B2⟩
  go_wp2_with (first | (go_at_call 10; refine (awake_from (by assumption)).mono ?_; rintro e x1 ⟨rfl, B1⟩) | (go_at_call 26; refine (CB _ (by assumption)).mono ?_))
  rintro e x2 ⟨rfl, B2⟩
  clear CA CB
  have C := enc_right _ a x2 (HA.out.old B2) HIA.out OA.out (by omega)
  have HB2 := hid B2
  go_wp2_with (first | (go_at_call 12; refine C.mono ?_))
  clear C
  rintro e x3 ⟨ao3, c3, rfl, o3, b3⟩
  have R3 := hid (Rd.own o3)
  have HB3 := hid (stepB HB2.out b3)
  clear o3 b3
  have C := enc_right _ b x3 (HB.out.old HB3.out) HIB.out OB.out (by omega)
  go_wp2_with (first | (go_at_call 12; refine C.mono ?_))
  clear C
  rintro e x4 ⟨ao4, c4, rfl, o4, b4⟩
  have R4 := hid (Rd.own o4)
  have R34 := hid (R3.out.old b4)
  have HB4 := hid (stepB HB3.out b4)
  clear o4 b4 R3
  have XA := hid (HA.out.old HB4.out)
  go_wp2_with (first
    | (at_builtin; refine wp_vapp rfl _ _ 22 rfl x4.heap.size 24 Try.underlying22 _ info_val (by decide) (.slice none 0 0) 0 [] rfl (World.ownsRow_nil _ _ _ _) _ a rfl XA.out ?c1 ?c2 ?_))
  case c1 => have := HAB.out; omega
  case c2 => exact Nat.le_refl _
  intro v5 x5 o5 g5
  have b5 : Below x4.heap.size x4 x5 := (Below.refl _ _).grown g5 (Nat.le_refl _) (fun k hk => by cases hk)
  have HO5 := hid o5
  have HB5 := hid (stepB HB4.out b5)
  have HX5 := hid b5
  have XB := hid (HB.out.old HB5.out)
  clear o5 g5 b5
  go_wp2_with (first
    | (at_builtin; refine wp_vapp rfl _ _ 22 rfl x4.heap.size 24 Try.underlying22 _ info_val (by decide) _ _ _ rfl HO5.out _ b rfl XB.out ?c1 ?c2 ?_))
  case c1 => have := HAB.out; omega
  case c2 => exact HX5.out.size
  intro v6 x6 o6 g6
  have b6 : Below x4.heap.size x4 x6 := HX5.out.grown g6 HX5.out.size (fun k hk => (HO5.out.lt k hk).1)
  have o6' : x6.ownsRow x4.heap.size 24 3 v6 (a ++ b).length (cellsL (a ++ b)) := by
    rw [cellsL_app]
    simpa using o6
  have V6 := hid (Vs.own o6')
  have R36 := hid (R34.out.old b6)
  have R46 := hid (R4.out.old b6)
  have HB6 := hid (stepB HB4.out b6)
  have OAB : Hid (∀ v ∈ a ++ b, okV v) := fun v hv => by rcases List.mem_append.1 hv with h | h; exact OA.out v h; exact OB.out v h
  have IAB : Hid (∀ v ∈ a ++ b, inV v) := fun v hv => by rcases List.mem_append.1 hv with h | h; exact HIA.out v h; exact HIB.out v h
  have LAB : Hid ((a ++ b).length ≤ 16) := by show _ ≤ _; rw [List.length_append]; omega
  clear o6 g6 b6 o6' HO5 HX5 HB5 XA XB R34 R4
  have C := enc_right _ (a ++ b) x6 V6.out IAB.out OAB.out LAB.out
  go_wp2_with (first | (go_at_call 12; refine C.mono ?_))
  clear C
  rintro e x7 ⟨ao7, c7, rfl, o7, b7⟩
  have R7 := hid (Rd.own o7)
  have V7 := hid (V6.out.old b7)
  have R37 := hid (R36.out.old b7)
  have R47 := hid (R46.out.old b7)
  have HB7 := hid (stepB HB6.out b7)
  clear o7 b7 V6 R36 R46
  have LXA := hid (encL_len OA.out)
  have LXB := hid (encL_len OB.out)
  have C := copy_any _ _ x7 R37.out (by have := LXA.out; have := HAB.out; omega)
  go_wp2_with (first | (go_at_call 29; refine C.mono ?_))
  clear C
  rintro e x8 ⟨y8, rfl, o8, b8⟩
  have HO8 := hid o8
  have HX8 := hid b8
  have R48 := hid (R47.out.old b8)
  clear o8 b8
  go_wp2_with (first
    | (at_builtin; refine wp_app rfl _ _ 27 rfl x7.heap.size 5 Try.underlying27 (by kernel_rfl) _ _ _ rfl HO8.out _ _ rfl R48.out ?c1 ?c2 ?_))
  case c1 => have := LXA.out; have := LXB.out; have := HAB.out; omega
  case c2 => exact HX8.out.size
  intro v9 x9 o9 g9
  have b9 : Below x7.heap.size x7 x9 := HX8.out.grown g9 HX8.out.size (fun k hk => (HO8.out.lt k hk).1)
  have o9' : x9.ownsRow x7.heap.size 5 1 v9 (encL (a ++ b)).length ((encL (a ++ b)).map bv) := by
    rw [encL_app]
    simpa using o9
  have R9 := hid (Rd.own o9')
  have R79 := hid (R7.out.old b9)
  have V9 := hid (V7.out.old b9)
  have R39 := hid (R37.out.old b9)
  have R49 := hid (R47.out.old b9)
  have HB9 := hid (stepB HB7.out b9)
  clear o9 g9 b9 o9' HO8 HX8 R48 R7 V7 R37 R47
  have C := dec_right _ (a ++ b) x9 R9.out IAB.out OAB.out LAB.out
  go_wp2_with (first | (go_at_call 19; refine C.mono ?_))
  clear C
  rintro e x10 ⟨ao10, c10, rfl, o10, b10⟩
  have V10 := hid (Vs.own o10)
  have R710 := hid (R79.out.old b10)
  have V910 := hid (V9.out.old b10)
  have R310 := hid (R39.out.old b10)
  have R410 := hid (R49.out.old b10)
  have HB10 := hid (stepB HB9.out b10)
  clear o10 b10 R9 R79 V9 R39 R49
  have C := copy_any _ _ x10 R310.out (by have := LXA.out; have := HAB.out; omega)
  go_wp2_with (first | (go_at_call 29; refine C.mono ?_))
  clear C
  rintro e x11 ⟨y11, rfl, o11, b11⟩
  have HO11 := hid o11
  have HX11 := hid b11
  have R411 := hid (R410.out.old b11)
  clear o11 b11
  go_wp2_with (first
    | (at_builtin; refine wp_app_guard rfl _ _ 27 rfl x10.heap.size 5 Try.underlying27 (by kernel_rfl) _ _ _ rfl HO11.out _ _ rfl R411.out ?c1 ?c2 ?_))
  case c1 => have := LXA.out; have := LXB.out; have := HAB.out; omega
  case c2 => exact HX11.out.size
  intro v12 x12 o12 g12
  have b12 : Below x10.heap.size x10 x12 := HX11.out.grown g12 HX11.out.size (fun k hk => (HO11.out.lt k hk).1)
  have o12' : x12.ownsRow x10.heap.size 5 1 v12 (encL (a ++ b)).length ((encL (a ++ b)).map bv) := by
    rw [encL_app]
    simpa using o12
  have R12 := hid (Rd.own o12')
  have R712 := hid (R710.out.old b12)
  have V12 := hid (V10.out.old b12)
  have V912 := hid (V910.out.old b12)
  have HB12 := hid (stepB HB10.out b12)
  clear o12 g12 b12 o12' HO11 HX11 R411
  have C := bytes_any _ _ _ _ x12 R712.out R12.out
  go_wp2_with (first | (go_at_call 14; refine C.mono ?_))
  clear C
  rintro e x13 ⟨rfl, rfl⟩
  rw [show (encL (a ++ b) == encL (a ++ b)) = true from by simp]
  have v12 := V12.out
  rw [List.length_append] at v12
  have C := vplain_eq _ _ _ x12 v12 V912.out
  clear v12
  go_wp2_with (first | (go_at_call 22; refine C.mono ?_))
  clear C
  rintro e x14 ⟨rfl, b14⟩
  have HB14 := hid (stepB HB12.out b14)
  clear b14
  go_wp2_with fail
  go_ret
  exact ⟨rfl, HB14.out⟩

theorem walk {H : Type} {enc : TypeId × Value → H} {base : Nat} {d0 d1 : DataW H} {p0 p1 : List MemPlace} (v0 v1 : Value) (w : World)
    (k0 : Value.okWide Try.prog w .any base 22 v0) (t0 : DataW.Trod enc Try.prog w 0 (fun _ => true) true 22 v0 d0 p0)
    (k1 : Value.okWide Try.prog w .any base 22 v1) (t1 : DataW.Trod enc Try.prog w 0 (fun _ => true) true 22 v1 d1 p1) :
    Calls Try.prog 7 #[v0, v1] w fun e w' => e = .returned (.bool true) ∧ Below w.heap.size w w' := by
  obtain ⟨a, len, cap, rfl⟩ := WideShapes.okWide_slice Try.underlying22 k0
  obtain ⟨l, -, hx, hin⟩ := vals_open t0
  obtain ⟨a2, len2, cap2, rfl⟩ := WideShapes.okWide_slice Try.underlying22 k1
  obtain ⟨l2, -, hx2, hin2⟩ := vals_open t1
  exact walk0 a len cap l a2 len2 cap2 l2 w hx hin hx2 hin2
end Go.Proofs.Ytacmidfcocjdjaa.tupleJoin
