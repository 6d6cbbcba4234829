/-
  THE LAW PagesParts: its walk.
-/
import Derived.LoopN
import Derived.Test.YtcgnghkjkdkmmaaGfl
import Derived.Test.YtcgnghkjkdkmmaaGsm
import Derived.Test.YtcgnghkjkdkmmaaGlaw
set_option linter.unusedVariables false
namespace Go.Proofs.Ytcgnghkjkdkmmaa
open Go.RowKit Go.Shelf

theorem fill_nil {w w1 W : World} {mb : Nat} (hM : Mp w.heap.size w1 mb (.slice none 0 0) []) (hb : Below w.heap.size w w1) (hW : Below w1.heap.size w1 W) : Fill w.heap.size w mb 0 none 0 [] (.slice none 0 0) [] W :=
  ⟨hb.trans (hW.mono hb.size), hM.old hW, fit_nil, (fun m hm => by simp [mls] at hm), by simp [mls], Prs.nil W, ⟨fun h => (h rfl).elim, fun m hm => by cases hm⟩, by simp [mls]⟩

theorem sort_parts {M : List Lp} (h : Srt M) (t : List UInt8) : (M.filter fun m => Op.bytesLess m.key t) ++ (M.filter fun m => !Op.bytesLess m.key t) = M := by
  induction M with
  | nil => rfl
  | cons x l ih =>
    have h2 := List.pairwise_cons.1 h
    cases hx : Op.bytesLess x.key t with
    | true =>
      rw [List.filter_cons_of_pos (by simpa using hx), List.filter_cons_of_neg (by simp [hx]), List.cons_append, ih h2.2]
    | false =>
      have hn : ∀ y ∈ l, Op.bytesLess y.key t = false := fun y hy => by
        cases hy2 : Op.bytesLess y.key t with
        | false => rfl
        | true =>
          have h3 := lt_trans (h2.1 y hy) (lt_less.1 hy2)
          rw [lt_less.2 h3] at hx
          cases hx
      rw [List.filter_cons_of_neg (by simp [hx]), List.filter_cons_of_pos (by simp [hx]), List.filter_eq_nil_iff.2 (fun y hy => by simp [hn y hy]), List.filter_eq_self.2 (fun y hy => by simp [hn y hy]), List.nil_append]

theorem less_nil (k : List UInt8) : Op.bytesLess k [] = false := by cases k <;> simp [Op.bytesLess]
theorem inSpan_to {t : List UInt8} (ht : ¬ t.length = 0) (k : List UInt8) : inSpan [] t k = Op.bytesLess k t := by
  have e : (t.length == 0) = false := by simpa using ht
  unfold inSpan
  rw [less_nil, e]
  simp
theorem inSpan_from (f k : List UInt8) : inSpan f [] k = !Op.bytesLess k f := by
  unfold inSpan
  simp

/-- Both parts, one behind the other. -/
theorem parts_all {M R A B : List Lp} {t : List UInt8} (hs : Srt M) (ht : ¬ t.length = 0) (hR : R = M.filter fun m => !inSpan [] t m.key) (hA : A.map lg = (M.filter fun m => inSpan [] t m.key).map lg) (hB : B.map lg = (R.filter fun m => inSpan t [] m.key).map lg) :
    (A ++ B).map lg = M.map lg ∧ B.length = R.length ∧ (R.filter fun m => !inSpan t [] m.key) = [] := by
  have e1 : (fun m : Lp => inSpan [] t m.key) = fun m => Op.bytesLess m.key t := by funext m; exact inSpan_to ht m.key
  have e2 : (fun m : Lp => !inSpan [] t m.key) = fun m => !Op.bytesLess m.key t := by funext m; rw [inSpan_to ht m.key]
  have hall : ∀ x ∈ R, inSpan t [] x.key = true := fun x hx => by
    rw [hR, e2] at hx
    have := (List.mem_filter.1 hx).2
    rw [inSpan_from]
    exact this
  have e3 : (R.filter fun m => inSpan t [] m.key) = R := List.filter_eq_self.2 hall
  rw [e3] at hB
  refine ⟨?_, by simpa using congrArg List.length hB, List.filter_eq_nil_iff.2 (fun x hx => by simp [hall x hx])⟩
  rw [List.map_append, hA, hB, hR, e1, e2, ← List.map_append, sort_parts hs]

namespace pagesParts
set_option maxHeartbeats 16000000 in
set_option maxRecDepth 100000 in
theorem walk0 (x y : Value) (M : List Lp) (at0 : List UInt8) (w : World) (hx : Prs w x M) (hy : Rd w y at0) :
    Calls Try.prog 7 #[x, y] w (AnsP w (.bool true)) := by
  obtain ⟨xo, xc, rfl, hmx⟩ := hx.form
  have hyy := hy
  obtain ⟨yo, yc, rfl, -, hm2, -⟩ := hyy
  unfold maxLen at hmx
  have HX := hid hx
  have HY := hid hy
  clear hx hy
  go_enter Try.func7, Try.ntmps7
  go_wp2_with (first | (go_at_call 9; refine (new_any w.heap.size w (Nat.le_refl _)).mono ?_))
  rintro e w1 ⟨rfl, hM1, hb1⟩
  go_wp2_with (first | (go_at_call 10; refine (awake_any w1).mono ?_))
  rintro e w2 ⟨rfl, hb2⟩
  have HF2 := hid (fill_nil hM1 hb1 hb2)
  have HB2 : Hid (Below w.heap.size w w2) := HF2.out.below
  have CA : Hid (Calls Try.prog 10 #[] w2 (AnsP w2 (.bool true))) := awake_any w2
  clear hM1 hb1 hb2
  by_cases h80 : M.length ≤ 80
  · by_cases hat : at0.length = 0
    · have e1 : (at0.length : Int) = 0 := by omega
      have e2 : ¬ ((80 : Int) < (M.length : Int)) := by omega
      have e2' : ¬ (80 < M.length) := by omega
      go_wp2_with (first | (go_at_call 10; refine CA.out.mono ?_; rintro e w3 ⟨rfl, hb3⟩))
      go_ret
      exact ⟨rfl, HB2.out.trans (hb3.mono HB2.out.size)⟩
    · have e1 : ¬ ((at0.length : Int) = 0) := by omega
      have e1' : ((at0.length : Int) == 0) = false := by simpa using e1
      have e2d : decide ((80 : Int) < (M.length : Int)) = false := by simp; omega
      have e2 : ¬ ((80 : Int) < (M.length : Int)) := by omega
      have e2' : ¬ (80 < M.length) := by omega
      go_wp2_with fail
      go_loopw [6, 7] (fun a i wr => ∃ (k : Nat) (la : Option Addr) (lc : Nat) (A : List Lp) (v : Value) (G : List Pg), k ≤ M.length ∧ i = .int .i64 k ∧ a = .slice la A.length lc ∧ Hid (Fill w.heap.size w w.heap.size k la lc A v G wr)) (fun _ i _ => M.length - (intOf i).toNat)
      case atStart => exact ⟨0, none, 0, [], _, _, by omega, rfl, rfl, HF2⟩
      case round =>
        obtain ⟨k, la, lc, A, v, G, hk, rfl, rfl, HFI⟩ := hrel
        by_cases hlt : k < M.length
        · have hv := List.getElem?_eq_getElem hlt
          generalize M[k] = m at *
          have hbr := HFI.out.below
          obtain ⟨b, off, rfl, d1, d2, d3⟩ := (HX.out.old hbr).get hv
          have hrm := (HX.out.old hbr).at hv
          have o1 := one_rd hrm.1
          have o2 := one_rd hrm.2
          have HRM := hid hrm
          have HRM0 := hid (HX.out.at hv)
          have HV := hid hv
          clear hv hrm hbr
          by_cases hmay : mayE m = 0
          · have CP : Hid (Calls Try.prog 20 #[.pointer (some ⟨w.heap.size, 0, none⟩), .agg #[.slice m.ka m.key.length m.kc, .slice m.va m.val.length m.vc, .int .i64 m.ver]] wr (fun e w' => e = .returned (.int .i64 0) ∧ ∃ m' v' G', Alike m' m ∧ Turned w.heap.size w.heap.size v G (putM (mls G).flatten m') wr w' v' G')) :=
              put_any w.heap.size w.heap.size v G m wr HFI.out.mp HFI.out.fit HRM.out hmay (by have := HFI.out.len; omega)
            go_wp2_with (first | (go_at_call 20; refine CP.out.mono ?_))
            rintro e w3 ⟨rfl, m', v', G', hal, ht⟩
            have HT := hid ht
            have HAL := hid hal
            obtain ⟨hb3, hr3, -⟩ := HFI.out.turned ht
            clear d1 d2 d3 hal ht
            obtain ⟨b2, off2, hbo, d1, d2, d3⟩ := (HX.out.old hb3).get HV.out
            simp only [Option.some.injEq, Addr.mk.injEq, and_true] at hbo
            obtain ⟨rfl, rfl⟩ := hbo
            have CH : Hid (Calls Try.prog 23 #[.slice la A.length lc, .agg #[.slice m.ka m.key.length m.kc, .slice m.va m.val.length m.vc, .int .i64 m.ver]] w3 (MadeP w3 (putM A m))) :=
              hput_any _ A m w3 hr3 (HRM0.out.old hb3) (by have := HFI.out.lenA; omega)
            clear hr3
            go_wp2_with (first | (go_at_call 23; refine CH.out.mono ?_))
            rintro e w4 ⟨x, rfl, hx, hb4⟩
            obtain ⟨xa, xc2, rfl, hfill⟩ := Fill.put rfl HFI.out HRM0.out hmay HAL.out HT.out hx hb4
            have HFL := hid hfill
            clear hx hb4 hfill d1 d2 d3 hb3
            go_wp2_with fail
            go_roundw
            case rel => exact ⟨k + 1, xa, xc2, putM A m, v', G', by omega, by go_num, rfl, HFL⟩
            case measure => simp [intOf]; omega
          · have CP : Hid (Calls Try.prog 20 #[.pointer (some ⟨w.heap.size, 0, none⟩), .agg #[.slice m.ka m.key.length m.kc, .slice m.va m.val.length m.vc, .int .i64 m.ver]] wr (AnsP wr (.int .i64 (mayE m)))) :=
              put_no (some ⟨w.heap.size, 0, none⟩) m wr HRM.out (.inr hmay)
            have hme : (mayE m == 0) = false := by simpa using hmay
            go_wp2_with (first | (go_at_call 20; refine CP.out.mono ?_))
            rintro e w3 ⟨rfl, hb3⟩
            have HFL : Hid (Fill w.heap.size w w.heap.size (k + 1) la lc A v G w3) := (HFI.out.old hb3).more (by omega)
            clear d1 d2 d3 hb3
            go_wp2_with fail
            go_roundw
            case rel => exact ⟨k + 1, la, lc, A, v, G, by omega, by go_num, rfl, HFL⟩
            case measure => simp [intOf]; omega
        · obtain rfl : k = M.length := by omega
          have HFW := hid HFI.out.below
          have hgl := HFI.out.fit.glen
          have hfl := HFI.out.len
          have hgl2 : G.length ≤ 10000 := by
            have h1 := len_flat (mls G) (fun g hg => (HFI.out.fit.ok g hg).1)
            rw [mls_len] at h1
            omega
          have hb8 : ∀ m ∈ (mls G).flatten, m.key.length ≤ 140737488355328 ∧ m.val.length ≤ 140737488355328 := fun m hm => may_bytes (HFI.out.may m hm)
          have HB8 := hid hb8
          clear hfl hb8
          go_wp2_with (first | (go_at_call 18; refine (fork_any w.heap.size w.heap.size v G wr HFI.out.mp (by omega)).mono ?_))
          rintro e w5 ⟨mb2, y2, rfl, hM2, hb5⟩
          have HF5 : Hid (Fill w.heap.size w w.heap.size M.length la lc A v G w5) := HFI.out.old hb5
          have hsep : ∀ k, MX mb2 y2 k → ¬ MX w.heap.size v k := fun k h1 h2 => by
            have := hM2.mx_lo k h1
            have := HFI.out.mp.mx_lt k h2
            omega
          have HM2 := hid hM2
          have HSEP := hid hsep
          have hbw5 : Below w.heap.size w w5 := HF5.out.below
          have HBW5 := hid hbw5
          have CT1 : Hid (Calls Try.prog 16 #[.pointer (some ⟨w.heap.size, 0, none⟩), .agg #[.slice none 0 0, .slice yo at0.length yc]] w5 (TakeA w.heap.size w.heap.size v G [] at0 w5)) :=
            take_any w.heap.size w.heap.size v _ _ _ G [] at0 w5 (.inr ⟨rfl, HF5.out.mp⟩) HF5.out.fit (Rd.nil _) (HY.out.old hbw5) hgl2 HB8.out
          clear hM2 hb5 hsep hbw5
          go_wp2_with (first | (go_at_call 16; refine CT1.out.mono ?_))
          intro e w6 htk
          obtain ⟨xa1, xc1, xs1, v1, G1, rfl, hl1, hr1, ht1, ho1⟩ := take_turned HF5.out.mp HF5.out.fit htk
          have hoth := ht1.other HM2.out HSEP.out (HFI.out.mp.off)
          have hall := ht1.list HF5.out.list HF5.out.off
          have HT1 := hid ht1
          have HR1 := hid hr1
          have HO1 := hid ho1
          have HL1 := hid hl1
          have HOTH := hid hoth
          have HALL := hid hall
          have hbw6 : Below w.heap.size w w6 := HBW5.out.trans (ht1.keep.below HF5.out.mp.base_le HF5.out.mp.mx_lo)
          have HBW6 := hid hbw6
          have hf1 : (mls G1).flatten.length ≤ 80 := by
            rw [ht1.flat]
            have := List.length_filter_le (fun m : Lp => !inSpan [] at0 m.key) (mls G).flatten
            have := HFI.out.len
            omega
          have hg1 : G1.length ≤ 10000 := by
            have h1 := len_flat (mls G1) (fun g hg => (ht1.fit.ok g hg).1)
            rw [mls_len] at h1
            omega
          have CL1 : Hid (Calls Try.prog 28 #[.pointer (some ⟨w.heap.size, 0, none⟩)] w6 (fun e w' => e = .returned (.int .i64 (total G1 : Int)) ∧ w' = w6)) := len_any _ G1 w6 (MapR.of ht1.mp) (by unfold total; omega) (by omega)
          have CT2 : Hid (Calls Try.prog 16 #[.pointer (some ⟨w.heap.size, 0, none⟩), .agg #[.slice yo at0.length yc, .slice none 0 0]] w6 (TakeA w.heap.size w.heap.size v1 G1 at0 [] w6)) :=
            take_any w.heap.size w.heap.size v1 _ _ _ G1 at0 [] w6 (.inr ⟨rfl, ht1.mp⟩) ht1.fit (HY.out.old hbw6) (Rd.nil _) hg1 (fun m hm => by rw [ht1.flat] at hm; exact HB8.out m (List.mem_filter.1 hm).1)
          clear htk hr1 ht1 ho1 hl1 hoth hall hbw6
          go_wp2_with (first
            | (go_at_call 28; refine CL1.out.mono ?_; rintro e wl ⟨rfl, rfl⟩)
            | (go_at_call 16; refine CT2.out.mono ?_))
          intro e w7 htk
          obtain ⟨xa2, xc2, xs2, v2, G2, rfl, hl2, hr2, ht2, ho2⟩ := take_turned HT1.out.mp HT1.out.fit htk
          obtain ⟨e1a, e2a, e3a⟩ := parts_all HFI.out.fit.srt hat HT1.out.flat HL1.out hl2
          have hoth2 := ht2.other HOTH.out.1 HOTH.out.2.1 HOTH.out.2.2
          have hall2 := ht2.list HALL.out.1 HALL.out.2
          have hlow2 := ht2.list HR1.out HO1.out
          have ht20 : total G2 = 0 := by unfold total; rw [ht2.flat, e3a]; rfl
          have ht1x : total G1 = xs2.length := by unfold total; rw [e2a]
          have htG : total G = A.length := total_eq HFI.out
          have hsame : (xs1 ++ xs2).map lg = A.map lg := by rw [e1a, HFI.out.same]
          have hbw7 : Below w.heap.size w w7 := HBW6.out.trans (ht2.keep.below HT1.out.mp.base_le HT1.out.mp.mx_lo)
          have HBW7 := hid hbw7
          have HSAME := hid hsame
          have HR2 := hid hr2
          have HALL2 := hid hall2.1
          have HLOW2 := hid hlow2.1
          have HOTH2 := hid hoth2.1
          have hg2 : G2.length ≤ 10000 := by
            have h1 := len_flat (mls G2) (fun g hg => (ht2.fit.ok g hg).1)
            rw [mls_len] at h1
            have : (mls G2).flatten.length = 0 := ht20
            omega
          have hxs : xs1.length + xs2.length ≤ 80 := by
            have h1 := congrArg List.length hsame
            simp only [List.length_map, List.length_append] at h1
            have := HFI.out.lenA
            omega
          have CL2 := len_any (.pointer (some ⟨w.heap.size, 0, none⟩)) G2 w7 (MapR.of ht2.mp) (by omega) (by omega)
          rw [ht20] at CL2
          have CL2H := hid CL2
          clear htk hr2 ht2 ho2 hl2 e1a e2a e3a hoth2 hall2 hlow2 hbw7 hsame CL2 ht20
          rw [ht1x]
          have hn1 : w7.ownsRow w7.heap.size 31 3 (.slice none 0 0) 0 [] := World.ownsRow_nil _ _ _ _
          have R1 : Hid (Rws 3 w7 (.slice xa1 xs1.length xc1) (xs1.map rowP)) := HLOW2.out.1
          go_wp2_with (first
            | (go_at_call 28; refine CL2H.out.mono ?_; rintro e wl ⟨rfl, rfl⟩)
            | (at_builtin; refine wp_rapp rfl _ _ 29 rfl wl.heap.size 3 56 31 Try.underlying29 _ info_pair (by decide) (by decide) _ _ _ rfl hn1 _ (xs1.map rowP) rfl R1.out ?c1 ?c2 ?c3 ?_))
          case c1 => rw [List.length_map]; omega
          case c2 => rw [List.length_map]; unfold maxLen; omega
          case c3 => exact Nat.le_refl _
          intro v8 w8 o8 g8
          have hb8 : Below wl.heap.size wl w8 := (Below.refl _ _).grown g8 (Nat.le_refl _) (fun k hk => by cases hk)
          have HO8 := hid o8
          have R2 : Hid (Rws 3 w8 (.slice xa2 xs2.length xc2) (xs2.map rowP)) := HR2.out.1.old hb8
          have HB8w := hid hb8
          clear o8 g8 hb8
          go_wp2_with (first
            | (at_builtin; refine wp_rapp rfl _ _ 29 rfl wl.heap.size 3 56 31 Try.underlying29 _ info_pair (by decide) (by decide) _ _ _ rfl HO8.out _ (xs2.map rowP) rfl R2.out ?c1 ?c2 ?c3 ?_))
          case c1 => simp; omega
          case c2 => simp; unfold maxLen; omega
          case c3 => exact HB8w.out.size
          intro v9 w9 o9 g9
          have hb9 : Below wl.heap.size wl w9 := HB8w.out.grown g9 HB8w.out.size (fun k hk => (HO8.out.lt k hk).1)
          have hp9 : Prs w9 v9 (xs1 ++ xs2) := by
            refine Prs.own (base := wl.heap.size) (e := 31) ?_ (fun m hm => ?_)
            · have e9 : ((xs1 ++ xs2).map rowP).flatten = (xs1.map rowP).flatten ++ (xs2.map rowP).flatten := by simp
              have e8 : (xs1 ++ xs2).length = xs1.length + xs2.length := by simp
              rw [e9, e8]
              exact o9
            · rcases List.mem_append.1 hm with hm | hm
              · exact (HLOW2.out.2 m hm).old hb9
              · exact (HR2.out.2 m hm).old hb9
          have CSM : Hid (Calls Try.prog 15 #[v9, .slice la A.length lc, .func (.func 17) #[] #[]] w9 (AnsP w9 (.bool true))) :=
            same_any v9 _ (xs1 ++ xs2) A w9 hp9 (HALL2.out.old hb9) HSAME.out
          have HB9 := hid hb9
          clear o9 g9 hb9 hp9
          go_wp2_with (first | (go_at_call 15; refine CSM.out.mono ?_))
          rintro e w10 ⟨rfl, hb10⟩
          have HB10 : Hid (Below wl.heap.size wl w10) := HB9.out.trans (hb10.mono HB9.out.size)
          have CL3 := len_any (.pointer (some ⟨mb2, 0, none⟩)) G w10 (MapR.of (HOTH2.out.old HB10.out)) (by unfold total; have := HFI.out.len; omega) (by omega)
          rw [htG] at CL3
          have CL3H := hid CL3
          clear hb10 CL3
          go_wp2_with (first | (go_at_call 28; refine CL3H.out.mono ?_; rintro e w11 ⟨rfl, rfl⟩))
          go_ret
          exact ⟨rfl, HBW7.out.trans (HB10.out.mono HBW7.out.size)⟩
  · have e2 : (80 : Int) < (M.length : Int) := by omega
    have e2' : 80 < M.length := by omega
    go_wp2_with (first | (go_at_call 10; refine CA.out.mono ?_; rintro e w3 ⟨rfl, hb3⟩))
    go_ret
    exact ⟨rfl, HB2.out.trans (hb3.mono HB2.out.size)⟩

set_option maxRecDepth 100000 in
theorem walk {H : Type} {enc : TypeId × Value → H} {base : Nat} {d0 : DataW H} {p0 : List MemPlace} (v0 : Value) (a1 : Option Addr) (len1 cap1 : Nat) (z1 : List Int) (w : World)
    (k0 : Value.okWide Try.prog w .any base 29 v0) (t0 : DataW.Trod enc Try.prog w 0 (fun _ => true) true 29 v0 d0 p0) (w1 : IsRow .u8 w a1 len1 cap1 z1) (b1 : cap1 * 1 ≤ 140737488351232) :
    Calls Try.prog 7 #[v0, .slice a1 len1 cap1] w fun e w' => e = .returned (.bool true) ∧ Below w.heap.size w w' := by
  obtain ⟨a, len, cap, rfl⟩ := WideShapes.okWide_slice Try.underlying29 k0
  obtain ⟨M, rfl, hM⟩ := pairs_open t0
  obtain ⟨l, rfl, hr1⟩ := rd_of_row w1
  exact walk0 _ _ M l w hM hr1
end pagesParts
end Go.Proofs.Ytcgnghkjkdkmmaa
