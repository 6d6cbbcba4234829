/-
  PAGES: the laws' helper Same, at pairs.
-/
import Derived.LoopN
import Derived.Test.YtcgnghkjkdkmmaaGsp
import Derived.Test.YtcgnghkjkdkmmaaGit
set_option linter.unusedVariables false
namespace Go.Proofs.Ytcgnghkjkdkmmaa
open Go.RowKit Go.Shelf

theorem lg_same {a b : Lp} (h : lg a = lg b) : sameP a b = true := by
  unfold lg at h
  simp only [Prod.mk.injEq] at h
  obtain ⟨h1, h2, h3⟩ := h
  unfold sameP
  rw [h1, h2, h3]
  simp

theorem lg_at {A B : List Lp} (h : A.map lg = B.map lg) {k : Nat} {a b : Lp} (ha : A[k]? = some a) (hb : B[k]? = some b) : lg a = lg b := by
  have h1 : (A.map lg)[k]? = some (lg a) := by rw [List.getElem?_map, ha]; rfl
  have h2 : (B.map lg)[k]? = some (lg b) := by rw [List.getElem?_map, hb]; rfl
  rw [h, h2] at h1
  exact (Option.some.inj h1).symm

set_option maxHeartbeats 8000000 in
set_option maxRecDepth 100000 in
theorem same_any (x y : Value) (A B : List Lp) (w : World) (hx : Prs w x A) (hy : Prs w y B) (hAB : A.map lg = B.map lg) :
    Calls Try.prog 15 #[x, y, .func (.func 17) #[] #[]] w (AnsP w (.bool true)) := by
  obtain ⟨ao, c, rfl, hm⟩ := hx.form
  obtain ⟨bo, d, rfl, hm2⟩ := hy.form
  have hlen : A.length = B.length := by simpa using congrArg List.length hAB
  unfold maxLen at hm hm2
  have HX := hid hx
  have HY := hid hy
  have HAB := hid hAB
  rw [← hlen]
  have HY2 : Hid (Prs w (.slice bo A.length d) B) := by show Prs w (.slice bo A.length d) B; rw [hlen]; exact hy
  have HLEN := hid hlen
  clear hx hy hAB hlen
  go_enter Try.func15, Try.ntmps15
  go_wp2_with fail
  go_loopw [6, 7] (fun r i wr => ∃ k : Nat, k ≤ A.length ∧ i = .int .i64 (k : Int) ∧ Hid (Below w.heap.size w wr)) (fun _ i _ => A.length - (intOf i).toNat)
  case atStart => exact ⟨0, by omega, rfl, Below.refl _ _⟩
  case round =>
    obtain ⟨k, hk, rfl, HB⟩ := hrel
    by_cases hlt : k < A.length
    · have hv := List.getElem?_eq_getElem hlt
      have hu : B[k]? = some (B[k]'(by have := HLEN.out; omega)) := List.getElem?_eq_getElem (by have := HLEN.out; omega)
      generalize A[k] = a at *
      generalize B[k] = b at *
      obtain ⟨b1, off1, rfl, d1, d2, d3⟩ := (HX.out.old HB.out).get hv
      obtain ⟨b2, off2, rfl, e1, e2, e3⟩ := (HY2.out.old HB.out).get hu
      have hra := (HX.out.old HB.out).at hv
      have hrb := (HY2.out.old HB.out).at hu
      have hs := lg_same (lg_at HAB.out hv hu)
      have s1 := one_rd hra.1
      have s2 := one_rd hra.2
      have s3 := one_rd hrb.1
      have s4 := one_rd hrb.2
      have C : Hid (Calls Try.prog 17 #[.agg #[.slice a.ka a.key.length a.kc, .slice a.va a.val.length a.vc, .int .i64 a.ver], .agg #[.slice b.ka b.key.length b.kc, .slice b.va b.val.length b.vc, .int .i64 b.ver]] wr.drew (AnsP wr.drew (.bool true))) := by
        rw [← hs]
        exact pair_any a b wr.drew hra hrb
      clear hv hu hra hrb hs
      go_wp2_with fail
      go_region_with (first | (go_at_call 17; refine C.out.mono ?_; rintro e w2 ⟨rfl, hb2⟩))
      all_goals
        have HB2 : Hid (Below w.heap.size w w2) := (HB.out.drew).trans (hb2.mono HB.out.size)
        clear hb2
        go_wp2_with fail
        go_roundw
        · exact ⟨k + 1, by omega, by go_num, HB2⟩
        · simp [intOf]; omega
    · obtain rfl : k = A.length := by omega
      go_wp2_with fail
      go_ret
      exact ⟨rfl, HB.out⟩
end Go.Proofs.Ytcgnghkjkdkmmaa
