/-
  RAFT: the law's awake; the calls of no node.
-/
import Derived.Test.YtdaecndbdinddaaRi
import Derived.Test.YtdaecndbdinddaaRj
set_option linter.unusedVariables false
set_option linter.unusedSimpArgs false
set_option maxRecDepth 100000
namespace Go.Proofs.Ytdaecndbdinddaa
open Go.RowKit Go.Deep

/-- The zero log. -/
def lo0 : Lo := ⟨0, 0, 0, 0, ⟨none, 0, []⟩, none, 0, []⟩
theorem lo0_at (w : World) : LoAt w lo0 := ⟨Rd.nil w, ⟨Rws.nil 3 w, fun e h => (by cases h)⟩, by decide, by decide, by decide, by decide, by decide, by decide⟩
theorem lo0_may : mayN 0 1 lo0.pl = true := by decide

set_option maxHeartbeats 8000000 in
theorem rawake_any (w : World) : Calls Try.prog 11 #[] w (fun e w' => e = .returned (.bool true) ∧ Below w.heap.size w w') := by
  have CN : Hid (Calls Try.prog 20 #[.int .i64 0, .int .i64 1, .agg #[.int .u64 0, .int .i64 0, .int .u64 0, .int .u64 0, .slice none 0 0, .slice none 0 0]] w (NewP w 0 1 lo0)) := hid (new_any 0 1 lo0 w (lo0_at w) (by decide))
  go_enter Try.func11, Try.ntmps11
  go_upto_region 2 with (first | (go_at_call 20; refine CN.out.mono ?_; rintro en w1 ⟨hb1, hor1⟩; have HB1 := hid hb1; rcases hor1 with ⟨h9, -⟩ | ⟨-, b, rfl, hM⟩; (exact absurd (lo0_may.symm.trans h9) (by decide)); have HM := hid hM; clear hM hb1))
  obtain ⟨is, hbb, hnd, hpl, hlo, hown, hoff, hrow⟩ := HM.out
  have hes : is.es = [] := by
    have := congrArg PL.es hpl
    exact List.map_eq_nil_iff.1 this
  have hsi : is.si = 0 := congrArg PL.si hpl
  have hht : is.ht = 0 := congrArg PL.ht hpl
  have HO : Hid (One w.heap.size w1 b is 0 0 0 0 false) := hid ⟨hnd, hlo, hown, hrow, (show LoOff is (fun k => k = b) from ⟨fun hne a ha e => hoff.1 hne a ha (.inl e), fun x hx hne a ha e => hoff.2.1 x hx hne a ha (.inl e), fun hne a ha e => hoff.2.2 hne a ha (.inl e)⟩), hbb⟩
  have HE := hid hes
  have HSI := hid hsi
  have HHT := hid hht
  clear hnd hpl hlo hown hoff hrow hes hsi hht
  go_wp2_with fail
  go_loopw [3] (fun i wr => ∃ k : Nat, k ≤ 10 ∧ i = .int .i64 (k : Int) ∧ Hid (Below w.heap.size w wr) ∧ Hid ((k < 10 ∧ One w.heap.size wr b is 0 0 0 (k : Int) false) ∨ (k = 10 ∧ ∃ po pc, One w.heap.size wr b (is.term.more po pc ⟨none, 0, []⟩) 2 1 1 0 true))) (fun i _ => 10 - (intOf i).toNat)
  case atStart => exact ⟨0, by omega, rfl, HB1.out, .inl ⟨by omega, HO.out⟩⟩
  case round =>
    obtain ⟨k, hk, rfl, HBr, HOr⟩ := hrel
    have hz : IntKind.i64.wrap ((k : Int) + 1) = (k : Int) + 1 := by rw [IntKind.wrap_i64]; omega
    by_cases h9 : k < 9
    · have hki : (k : Int) < 10 := by omega
      have HO1 : Hid (One w.heap.size wr b is 0 0 0 (k : Int) false) := hid (HOr.out.elim (fun h => h.2) (fun h => by omega))
      have CT := hid (tick1_wait HO1.out ⟨by omega, by omega⟩)
      go_wp2_with (first | (go_at_call 21; refine CT.out.mono ?_; rintro en w2 ⟨rfl, hO2, hK2⟩; have HO2 := hid hO2; have HK2 := hid hK2; clear hO2 hK2))
      exact ⟨⟨k + 1, by omega, by simp, HBr.out.trans (HK2.out.below HBr.out.size (fun j e => by rw [e]; exact hbb)), .inl ⟨by omega, by have := HO2.out; simpa using this⟩⟩, by simp only [intOf]; omega⟩
    · by_cases h10 : k < 10
      · obtain rfl : k = 9 := by omega
        have HO1 : Hid (One w.heap.size wr b is 0 0 0 9 false) := hid (HOr.out.elim (fun h => h.2) (fun h => by omega))
        have CT := hid (tick1_elect HO1.out HSI.out HE.out HBr.out.size (by rw [HHT.out]; decide))
        go_wp2_with (first | (go_at_call 21; refine CT.out.mono ?_; rintro en w2 ⟨rfl, po, pc, hO2, hK2⟩; have HO2 := hid hO2; have HK2 := hid hK2; clear hO2 hK2))
        exact ⟨⟨10, by omega, rfl, HBr.out.trans (HK2.out.below HBr.out.size (fun j e => e.elim (fun e => by rw [e]; exact hbb) (fun e => (HO1.out.own.own.lt j e).1))), .inr ⟨rfl, po, pc, HO2.out⟩⟩, by simp only [intOf]; omega⟩
      · obtain rfl : k = 10 := by omega
        have HO1 : Hid (∃ po pc, One w.heap.size wr b (is.term.more po pc ⟨none, 0, []⟩) 2 1 1 0 true) := hid (HOr.out.elim (fun h => by omega) (fun h => h.2))
        obtain ⟨po, pc, hO1⟩ := HO1.out
        have hsi1 : (is.term.more po pc ⟨none, 0, []⟩).si = 0 := HSI.out
        have hlen1 : (is.term.more po pc ⟨none, 0, []⟩).es.length = 1 := by rw [more_len]; show is.es.length + 1 = 1; rw [HE.out]; rfl
        have hht1 : (is.term.more po pc ⟨none, 0, []⟩).ht = 1 := by show is.ht + 1 = 1; rw [HHT.out]
        have CS0 := status_any hO1.nd (by omega) (by rw [hsi1]; decide) (by rw [hsi1, hlen1]; decide)
        rw [hsi1, hlen1, hht1] at CS0
        have CS := hid CS0
        clear CS0 hO1 hsi1 hlen1 hht1
        go_wp2_with (first | (go_at_call 17; refine CS.out.mono ?_; rintro en w2 ⟨rfl, hb2⟩; have HB2 := hid (HBr.out.trans (hb2.mono HBr.out.size)); clear hb2))
        go_ret
        exact ⟨rfl, HB2.out.alloc HB2.out.size _⟩
end Go.Proofs.Ytdaecndbdinddaa
