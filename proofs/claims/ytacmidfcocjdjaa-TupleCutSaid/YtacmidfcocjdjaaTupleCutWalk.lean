/-
  THE LAW TupleCut: the walk.
-/
import Derived.Test.YtacmidfcocjdjaaTLaw2
namespace Go.Proofs.Ytacmidfcocjdjaa.tupleCut
open Go.RowKit

theorem enc_take (l : List Vl) (i : Nat) : (encL l).take (encL (l.take i)).length = encL (l.take i) := by
  have h : encL l = encL (l.take i) ++ encL (l.drop i) := by rw [← encL_app, List.take_append_drop]
  rw [h, List.take_left]

theorem cut_number (at0 : Int) (n : Nat) (hn : n ≤ 100000) : ∃ k : Nat, k ≤ n ∧ wrap64 ((IntKind.u64.wrap at0).tmod ((n : Int) + 1)) = (k : Int) := by
  have e : IntKind.u64.wrap at0 = (((at0 % 18446744073709551616).toNat : Nat) : Int) := by rw [IntKind.wrap_u64]; omega
  generalize (at0 % 18446744073709551616).toNat = u at e
  have h1 : (u : Int).tmod ((n : Int) + 1) = ((u % (n + 1) : Nat) : Int) := rfl
  have h2 : u % (n + 1) < n + 1 := Nat.mod_lt _ (by omega)
  refine ⟨u % (n + 1), by omega, ?_⟩
  rw [e, h1]
  simp only [wrap64]
  omega

/-- Behind a value. -/
theorem cut_at {l : List Vl} {i k : Nat} (hg : ∀ v ∈ l, okV v ∧ inV v) (h16 : l.length ≤ 16) (h : (encL (l.take i)).length = k) :
    decE ((encL l).take k) = 0 ∧ decO ((encL l).take k) = l.take i ∧ decN ((encL l).take k) = k := by
  have h1 : (encL l).take k = encL (l.take i) := by rw [← h]; exact enc_take l i
  have h2 := decA_all (l.take i) (fun v hv => hg v (List.mem_of_mem_take hv))
  rw [← h1] at h2
  obtain ⟨q1, q2, q3⟩ := dec_ok h2 (by rw [List.length_take]; omega)
  exact ⟨q1, q2, by rw [q3, h1, h]⟩

/-- Within a value. -/
theorem cut_in {l : List Vl} {k : Nat} (hg : ∀ v ∈ l, okV v ∧ inV v) (hk : k ≤ (encL l).length) (h : ∀ i, i ≤ l.length → (encL (l.take i)).length ≠ k) :
    decE ((encL l).take k) = 8 := by
  rcases cut_where l k hk with ⟨i, h1, h2, -⟩ | ⟨i, v, n, h1, h2, h3, h4, -⟩
  · exact absurd h2 (h i h1)
  · have hv := hg v (List.mem_of_getElem? h1)
    have := decA_cut (l.take i) v (fun u hu => hg u (List.mem_of_mem_take hu)) hv.1 n h2 h3
    rw [← h4] at this
    exact (dec_err this (by decide)).1

set_option maxHeartbeats 8000000 in
set_option maxRecDepth 100000 in
theorem walk0 (aa : Option Addr) (la ca : Nat) (l : List Vl) (at0 : Int) (w : World) (hxa : Vs w (.slice aa la ca) l) (hia : ∀ v ∈ l, inV v) (hat : (Lit.int .i64 at0).wf = true) :
    Calls Try.prog 9 #[.slice aa la ca, .int .i64 at0] w (Ans w (.bool true)) := by
  obtain ⟨rfl, ha1, ha2⟩ := hxa.size
  have hma : l.length ≤ maxLen := by omega
  unfold maxLen at hma
  have HA := hid hxa
  have HIA := hid hia
  have B0 := Below.refl w.heap.size w
  have hb0 := bounds_i64 hat
  clear hxa hia ha1 ha2 hat
  by_cases ga : (∀ v ∈ l, okV v) ∧ l.length < 60
  case neg =>
    have CA := fun W h => right_from (w := w) (wr := W) h HA.out _ (good_false ga)
    clear ga
    go_enter Try.func9, Try.ntmps9
    go_wp2_with (first | (go_at_call 10; refine (awake_from (by assumption)).mono ?_; rintro e x1 ⟨rfl, B1⟩) | (go_at_call 26; refine (CA _ (by assumption)).mono ?_))
    rintro e x2 ⟨rfl, B2⟩
    go_wp2_with (first | (go_at_call 10; refine (awake_from (by assumption)).mono ?_; rintro e x1 ⟨rfl, B1⟩))
    go_ret
    exact ⟨rfl, by assumption⟩
  have CA := fun W h => right_from (w := w) (wr := W) h HA.out _ (good_true ga)
  have OA := hid ga.1
  clear ga
  by_cases h16 : 16 < l.length
  case pos =>
    go_enter Try.func9, Try.ntmps9
    go_wp2_with (first | (go_at_call 10; refine (awake_from (by assumption)).mono ?_; rintro e x1 ⟨rfl, B1⟩) | (go_at_call 26; refine (CA _ (by assumption)).mono ?_))
    rintro e x2 ⟨rfl, B2⟩
    go_wp2_with (first | (go_at_call 10; refine (awake_from (by assumption)).mono ?_; rintro e x1 ⟨rfl, B1⟩))
    go_ret
    exact ⟨rfl, by assumption⟩
  have h16' : l.length ≤ 16 := by omega
  have HL := hid h16'
  have HG : Hid (∀ v ∈ l, okV v ∧ inV v) := fun v hv => ⟨OA.out v hv, HIA.out v hv⟩
  have hel := encL_len OA.out
  clear hma
  go_enter Try.func9, Try.ntmps9
  go_wp2_with (first | (go_at_call 10; refine (awake_from (by assumption)).mono ?_; rintro e x1 ⟨rfl, B1⟩) | (go_at_call 26; refine (CA _ (by assumption)).mono ?_))
  rintro e x2 ⟨rfl, B2⟩
  clear CA
  have C := enc_right _ l x2 (HA.out.old B2) HIA.out OA.out h16'
  have HB2 := hid B2
  go_wp2_with (first | (go_at_call 12; refine C.mono ?_))
  clear C
  rintro e x3 ⟨ao3, c3, rfl, o3, b3⟩
  have R3 := hid (Rd.own o3)
  have HB3 := hid (stepB HB2.out b3)
  clear o3 b3 B1 B2 B0
  have hk := cut_number at0 (encL l).length (by omega)
  obtain ⟨k, hk1, hk2⟩ := hk
  obtain ⟨ao4, c4, hs4, hr4, -⟩ := R3.out.head (P := Try.prog) 27 5 Try.underlying27 (by kernel_rfl) k hk1
  have hs4' := fun W => hs4 .i64 W
  have C := dec_any _ _ x3 hr4 (by rw [List.length_take]; omega)
  clear hs4 hr4
  go_wp2_with (first | (go_at_call 19; refine C.mono ?_))
  clear C hs4'
  rintro e x4 h4
  obtain ⟨ao5, c5, rfl, o5, b5⟩ := h4.elim
  clear h4
  have HC1 := hid (fun i (h : (encL (l.take i)).length = k) => cut_at HG.out HL.out h)
  have HC2 := hid (fun (h : ∀ i, i ≤ l.length → (encL (l.take i)).length ≠ k) => cut_in HG.out hk1 h)
  generalize decE ((encL l).take k) = dE at *
  generalize decO ((encL l).take k) = dO at *
  generalize decN ((encL l).take k) = dN at *
  have V5 := hid (Vs.own o5)
  have HB4 := hid (stepB HB3.out b5)
  have HEL := hid hel
  have HL0 : Hid (encL (l.take l.length) = encL l) := by show _ = _; rw [List.take_length]
  clear o5 b5 hel
  go_wp2_with fail
  go_loopw [11, 12] (fun wh i wr => ∃ (m wn : Nat), m ≤ l.length + 1 ∧ i = .int .i64 (m : Int) ∧ wh = .int .i64 (wn : Int) ∧ (∀ j, m = j + 1 → wn = (encL (l.take j)).length) ∧ (∀ j, j < m → (encL (l.take j)).length ≠ k) ∧ Below x4.heap.size x4 wr) (fun _ i _ => l.length + 1 - (intOf i).toNat)
  case atStart => exact ⟨0, 0, by omega, rfl, rfl, fun j h => by omega, fun j h => by omega, Below.refl _ _⟩
  case round =>
    obtain ⟨m, wn, hm, rfl, rfl, hwn, hno, hb⟩ := hrel
    have HW := hid hwn
    have HN := hid hno
    have HX := hid hb
    have HBW := hid (stepB HB4.out hb)
    clear hwn hno hb
    by_cases hlt : m ≤ l.length
    · obtain ⟨ao6, c6, hs6, hv6, -⟩ := (HA.out.old HBW.out).head (P := Try.prog) 22 24 Try.underlying22 (by kernel_rfl) m hlt
      have hs6' := fun W => hs6 .i64 W
      have C := enc_right _ (l.take m) wr hv6 (fun v hv => HIA.out v (List.mem_of_mem_take hv)) (fun v hv => OA.out v (List.mem_of_mem_take hv)) (by rw [List.length_take]; omega)
      have V6 := hid hv6
      clear hs6 hv6
      go_wp2_with (first | (go_at_call 12; refine C.mono ?_))
      clear C
      rintro e x5 ⟨ao7, c7, rfl, o7, b7⟩
      have HX5 := hid (stepB HX.out b7)
      have V56 := hid (V6.out.old b7)
      clear o7 b7
      by_cases hq : (encL (l.take m)).length = k
      · have h1 := HC1.out m hq
        have HQ := hid h1
        obtain ⟨h1, h2, h3⟩ := h1
        rw [h1, h3]
        clear h1 h2 h3
        have C := vplain_eq _ _ dO x5 (V5.out.old HX5.out) (by rw [HQ.out.2.1]; exact V56.out)
        go_wp2_with (first | (go_at_call 22; refine C.mono ?_))
        clear C
        rintro e x6 ⟨rfl, b6⟩
        have HB6 := hid (stepB HB4.out (stepB HX5.out b6))
        go_wp2_with fail
        go_ret
        exact ⟨rfl, HB6.out⟩
      · have hq' : ¬ ((encL (l.take m)).length : Int) = (k : Int) := by omega
        go_wp2_with fail
        go_roundw
        case rel =>
          refine ⟨m + 1, _, by omega, by go_num, rfl, fun j hj => ?_, fun j hj => ?_, HX5.out⟩
          · obtain rfl : j = m := by omega
            rfl
          · by_cases hjm : j < m
            · exact HN.out j hjm
            · obtain rfl : j = m := by omega
              exact hq
        case measure => simp [intOf]; omega
    · obtain rfl : m = l.length + 1 := by omega
      have h8 := HC2.out (fun i hi => HN.out i (by omega))
      have hwl := HW.out l.length rfl
      rw [HL0.out] at hwl
      subst hwl
      have hd8 : dE = 8 := h8
      subst hd8
      go_wp2_with fail
      go_ret
      exact ⟨rfl, HBW.out⟩

theorem walk {H : Type} {enc : TypeId × Value → H} {base : Nat} {d0 : DataW H} {p0 : List MemPlace} (v0 : Value) (a1 : Int) (w : World)
    (k0 : Value.okWide Try.prog w .any base 22 v0) (t0 : DataW.Trod enc Try.prog w 0 (fun _ => true) true 22 v0 d0 p0) (w1 : (Lit.int .i64 a1).wf = true) :
    Calls Try.prog 9 #[v0, .int .i64 a1] w fun e w' => e = .returned (.bool true) ∧ Below w.heap.size w w' := by
  obtain ⟨a, len, cap, rfl⟩ := WideShapes.okWide_slice Try.underlying22 k0
  obtain ⟨l, -, hx, hin⟩ := vals_open t0
  exact walk0 a len cap l a1 w hx hin w1
end Go.Proofs.Ytacmidfcocjdjaa.tupleCut
