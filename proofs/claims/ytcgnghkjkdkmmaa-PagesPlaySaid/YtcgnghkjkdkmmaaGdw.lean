/-
  PAGES: Drop's walk.
-/
import Derived.Test.YtcgnghkjkdkmmaaGdr
set_option linter.unusedVariables false
namespace Go.Proofs.Ytcgnghkjkdkmmaa
open Go.RowKit Go.Shelf

theorem isAt_any {ML : List (List Lp)} {key : List UInt8} {p i : Nat} (h : SpotOk ML key p i) (hs : Srt ML.flatten) : isAt ML key p i = ML.flatten.any fun m => m.key == key := by
  have hlow := h.low
  have hhigh := h.high
  have hfl := h.flat
  cases hq : (pgAt ML p)[i]? with
  | none =>
    have e1 : isAt ML key p i = false := by unfold isAt; rw [hq]
    have hp : ¬ p < ML.length := fun hp => by
      have := h.here hp
      rw [List.getElem?_eq_none_iff] at hq
      omega
    rw [e1, eq_comm, List.any_eq_false]
    intro x hx
    have e2 : pgAt ML p = [] := pgAt_ge (by omega)
    have e3 : ML.drop (p + 1) = [] := List.drop_of_length_le (by omega)
    rw [hfl, e2, e3] at hx
    simp only [List.take_nil, List.append_nil, List.drop_nil, List.flatten_nil, List.nil_append] at hx
    have := hlow x (List.mem_append_left _ hx)
    simp only [beq_iff_eq]
    exact fun e => lt_irrefl key (by rwa [e] at this)
  | some q =>
    have e1 : isAt ML key p i = (q.key == key) := by unfold isAt; rw [hq]
    have hi : i < (pgAt ML p).length := (List.getElem?_eq_some_iff.1 hq).1
    have hd : (pgAt ML p).drop i = q :: (pgAt ML p).drop (i + 1) := by
      rw [List.drop_eq_getElem_cons hi]
      have := (List.getElem?_eq_some_iff.1 hq).2
      rw [this]
    rw [e1]
    cases he : q.key == key with
    | true =>
      rw [eq_comm, List.any_eq_true]
      exact ⟨q, by rw [hfl, hd]; simp, he⟩
    | false =>
      rw [eq_comm, List.any_eq_false]
      intro x hx
      simp only [beq_iff_eq]
      rw [hfl, hd] at hx hs
      rw [hd] at hhigh
      rcases List.mem_append.1 hx with hx | hx
      · have := hlow x hx
        exact fun e => lt_irrefl key (by rwa [e] at this)
      · have hqn : ¬ lt q.key key := hhigh q (by simp)
        have hne : q.key ≠ key := by simpa using he
        rw [List.cons_append] at hx
        rcases List.mem_cons.1 hx with rfl | hx
        · exact hne
        · have h1 := (List.pairwise_append.1 hs).2.1
          rw [List.cons_append, List.pairwise_cons] at h1
          have h2 := h1.1 x hx
          exact fun e => hqn (by rwa [e] at h2)

/-- What Drop does. -/
def DropA (base mb : Nat) (v : Value) (G : List Pg) (key : List UInt8) (w : World) (e : Ending) (w' : World) : Prop :=
  ∃ b : Bool, b = ((mls G).flatten.any fun m => m.key == key) ∧ e = .returned (.bool b) ∧ (b = false → Below w.heap.size w w') ∧
    (b = true → ∃ v' G', Turned base mb v G (dropM key (mls G).flatten) w w' v' G')

set_option maxHeartbeats 8000000 in
set_option maxRecDepth 100000 in
theorem drop_any (base mb : Nat) (v pv0 y : Value) (G : List Pg) (key : List UInt8) (w : World) (hM : (pv0 = .pointer none ∧ G = []) ∨ (pv0 = .pointer (some ⟨mb, 0, none⟩) ∧ Mp base w mb v G)) (hF : Fit G) (hy : Rd w y key) :
    Calls Try.prog 12 #[pv0, y] w (DropA base mb v G key w) := by
  have hyy := hy
  obtain ⟨ya, yc, rfl, -⟩ := hyy
  obtain ⟨ao, c, hpg, hall⟩ := all_val pv0 G w (hM.imp id fun h => ⟨base, mb, v, h.1, h.2⟩)
  have HM := hid hM
  have HF := hid hF
  have HY := hid hy
  have HPG := hid hpg
  have CA : Hid (∀ W, Below w.heap.size w W → Calls Try.prog 31 #[pv0] W (fun e w' => e = .returned (.slice ao G.length c) ∧ w' = W)) := fun W h => hall W h
  have CF : Hid (∀ W, Below w.heap.size w W → Calls Try.prog 30 #[.slice ao G.length c, .slice ya key.length yc] W (FindA G key W)) := fun W h => find_anyG _ _ G key _ (HPG.out.old h) (HY.out.old h) HF.out.ord
  clear hM hF hy hpg hall
  go_enter Try.func12, Try.ntmps12
  have hb0 : Hid (Below w.heap.size w w) := Below.refl _ _
  go_wp2_with (first
    | (go_at_call 31; refine (CA.out _ hb0.out).mono ?_; rintro e wa ⟨rfl, rfl⟩)
    | (go_at_call 30; refine (CF.out _ hb0.out).mono ?_))
  rintro e wf ⟨p, i, hsp, rfl, hbf⟩
  unfold spotV
  have HSP := hid hsp
  have HBF := hid hbf
  have HANY := hid (isAt_any hsp HF.out.srt)
  have HBX : Hid (Below wa.heap.size wa (wf.alloc (.cells #[.int .i64 (p : Int), .int .i64 (i : Int)] 67))) := hbf.alloc hbf.size _
  clear hsp hbf
  cases hat : isAt (mls G) key p i with
  | false =>
    go_wp2_with fail
    go_ret
    exact ⟨false, by rw [← HANY.out, hat], rfl, fun _ => HBX.out, fun h => by cases h⟩
  | true =>
    rcases HM.out with ⟨rfl, rfl⟩ | ⟨rfl, hm⟩
    · have : isAt (mls []) key p i = false := by
        rw [HANY.out]; rfl
      rw [hat] at this; cases this
    · have hple := HSP.out.le
      rw [mls_len] at hple
      have hw : IntKind.i64.wrap ((i : Int) + 1) = (i : Int) + 1 := by
        have := HF.out.page p
        have := HSP.out.bound
        rw [IntKind.wrap_i64]; omega
      have HMM := hid hm
      have HAT := hid hat
      clear hm
      have CC : Hid (Calls Try.prog 32 #[.pointer (some ⟨mb, 0, none⟩), .agg #[.int .i64 (p : Int), .int .i64 (i : Int)], .agg #[.int .i64 (p : Int), .int .i64 ((i : Int) + 1)], .slice none 0 0] (wf.alloc (.cells #[.int .i64 (p : Int), .int .i64 (i : Int)] 67)) (ChgA base mb v G (changeL (mls G) p i p (i + 1) []) (wf.alloc (.cells #[.int .i64 (p : Int), .int .i64 (i : Int)] 67)))) := by
        have e2 : ((i : Int) + 1 : Int) = (((i + 1 : Nat)) : Int) := by omega
        rw [e2]
        have hbd := HSP.out.bound
        refine change_any base mb v G p i p (i + 1) none 0 [] _ (HMM.out.old HBX.out) HF.out (Prs.nil _) (fun m hm => by cases hm) (Nat.le_refl _) hple hbd (isAt_lt HAT.out) (by simp) (fun e9 => ?_) (fun e9 => ?_)
        · have h1 := isAt_lt HAT.out
          rw [pgAt_ge (by rw [mls_len]; omega)] at h1
          simp at h1
        · have h1 := isAt_lt HAT.out
          rw [pgAt_ge (by rw [mls_len]; omega)] at h1
          simp at h1
      go_wp2_with (first | (go_at_call 32; refine CC.out.mono ?_))
      rintro e wz ⟨v', G', r, rfl, z1, z2, z3, z4, z5⟩
      have Z1 := hid z1
      have Z2 := hid z2
      have Z3 := hid z3
      have Z4 := hid z4
      have Z5 := hid z5
      clear z1 z2 z3 z4 z5
      go_wp2_with fail
      go_ret
      exact ⟨true, by rw [← HANY.out]; exact HAT.out.symm, rfl, (fun h => by cases h), fun _ => ⟨v', G', drop_fin HMM.out HF.out HSP.out HAT.out HBX.out Z1.out Z2.out Z3.out Z4.out Z5.out⟩⟩
end Go.Proofs.Ytcgnghkjkdkmmaa
