/-
  RIGHT, the code's and the document's; two values held against each other; a kind's byte.
-/
import Derived.Test.YtacmidfcocjdjaaTBase
namespace Go.Proofs.Ytacmidfcocjdjaa
open Go.RowKit

theorem str_nil (s : List UInt8) : ((⟨s.toArray⟩ : ByteArray).toList == (⟨#[]⟩ : ByteArray).toList) = decide (s = []) := by
  rw [ByteArray.toList_eq, ByteArray.toList_eq]
  cases s <;> rfl

theorem str_len (s : List UInt8) : (⟨s.toArray⟩ : ByteArray).size = s.length := rfl

theorem okV_dec (k i : Int) (s : List UInt8) : decide (okV ⟨k, i, s⟩) = if k = 0 then decide (i = 0) && decide (s = []) else if k = 1 then decide (s = []) else if k = 2 then decide (i = 0) && decide (s.length ≤ 20) else false := by
  by_cases h0 : k = 0
  · subst h0; simp [okV]
  · by_cases h1 : k = 1
    · subst h1; simp [okV]
    · by_cases h2 : k = 2
      · subst h2; simp [okV]
      · simp [okV, h0, h1, h2]

theorem len_dec (s : List UInt8) : decide ((s.length : Int) ≤ 20) = decide (s.length ≤ 20) := by
  congr 1
  exact propext (by omega)

set_option maxHeartbeats 1000000 in
set_option maxRecDepth 100000 in
theorem right_any (v : Vl) (w : World) : Calls Try.prog 15 #[sv v] w (Ans w (.bool (decide (okV v)))) := by
  have B := hid ((Below.refl w.heap.size w).alloc (Nat.le_refl _) (.cells #[.int .i64 v.k, .int .i64 v.i, .string ⟨v.s.toArray⟩] 24))
  have E := str_nil v.s
  have L := str_len v.s
  obtain ⟨k, i, s⟩ := v
  have hd := okV_dec k i s
  rw [hd]
  clear hd
  unfold sv
  simp only at E L B ⊢
  by_cases h0 : k = 0
  · subst h0
    by_cases hi : i = 0
    · subst hi
      by_cases hs : s = []
      · subst hs
        go_enter Try.func15, Try.ntmps15
        go_wp2
        go_ret
        refine ⟨congrArg (fun b => Ending.returned (.bool b)) ?_, B.out⟩
        simp_all [List.isEmpty_iff, len_dec]
      · have hs' : s.isEmpty = false := by cases s <;> simp_all
        have hs2 : decide (s = []) = false := by simp [hs]
        rw [hs2]
        go_enter Try.func15, Try.ntmps15
        go_wp2
        go_ret
        refine ⟨congrArg (fun b => Ending.returned (.bool b)) ?_, B.out⟩
        simp_all [List.isEmpty_iff, len_dec]
    · have hi' : (i == 0) = false := by simp [hi]
      go_enter Try.func15, Try.ntmps15
      go_wp2
      go_ret
      refine ⟨congrArg (fun b => Ending.returned (.bool b)) ?_, B.out⟩
      simp_all [List.isEmpty_iff, len_dec]
  · have h0' : (k == 0) = false := by simp [h0]
    by_cases h1 : k = 1
    · subst h1
      go_enter Try.func15, Try.ntmps15
      go_wp2
      go_ret
      refine ⟨congrArg (fun b => Ending.returned (.bool b)) ?_, B.out⟩
      simp_all [List.isEmpty_iff, len_dec]
    · have h1' : (k == 1) = false := by simp [h1]
      by_cases h2 : k = 2
      · subst h2
        by_cases hi : i = 0
        · subst hi
          go_enter Try.func15, Try.ntmps15
          go_wp2
          go_ret
          refine ⟨congrArg (fun b => Ending.returned (.bool b)) ?_, B.out⟩
          simp_all [List.isEmpty_iff, len_dec]
        · have hi' : (i == 0) = false := by simp [hi]
          go_enter Try.func15, Try.ntmps15
          go_wp2
          go_ret
          refine ⟨congrArg (fun b => Ending.returned (.bool b)) ?_, B.out⟩
          simp_all [List.isEmpty_iff, len_dec]
      · have h2' : (k == 2) = false := by simp [h2]
        go_enter Try.func15, Try.ntmps15
        go_wp2
        go_ret
        refine ⟨congrArg (fun b => Ending.returned (.bool b)) ?_, B.out⟩
        simp_all [List.isEmpty_iff, len_dec]

set_option maxHeartbeats 1000000 in
set_option maxRecDepth 100000 in
theorem rright_any (v : Vl) (w : World) : Calls Try.prog 16 #[sv v] w (Ans w (.bool (decide (okV v)))) := by
  have B := hid ((Below.refl w.heap.size w).alloc (Nat.le_refl _) (.cells #[.int .i64 v.k, .int .i64 v.i, .string ⟨v.s.toArray⟩] 24))
  have E := str_nil v.s
  have L := str_len v.s
  obtain ⟨k, i, s⟩ := v
  have hd := okV_dec k i s
  rw [hd]
  clear hd
  unfold sv
  simp only at E L B ⊢
  by_cases h0 : k = 0
  · subst h0
    by_cases hi : i = 0
    · subst hi
      by_cases hs : s = []
      · subst hs
        go_enter Try.func16, Try.ntmps16
        go_wp2
        go_ret
        refine ⟨congrArg (fun b => Ending.returned (.bool b)) ?_, B.out⟩
        simp_all [List.isEmpty_iff, len_dec]
      · have hs' : s.isEmpty = false := by cases s <;> simp_all
        have hs2 : decide (s = []) = false := by simp [hs]
        rw [hs2]
        go_enter Try.func16, Try.ntmps16
        go_wp2
        go_ret
        refine ⟨congrArg (fun b => Ending.returned (.bool b)) ?_, B.out⟩
        simp_all [List.isEmpty_iff, len_dec]
    · have hi' : (i == 0) = false := by simp [hi]
      go_enter Try.func16, Try.ntmps16
      go_wp2
      go_ret
      refine ⟨congrArg (fun b => Ending.returned (.bool b)) ?_, B.out⟩
      simp_all [List.isEmpty_iff, len_dec]
  · have h0' : (k == 0) = false := by simp [h0]
    by_cases h1 : k = 1
    · subst h1
      go_enter Try.func16, Try.ntmps16
      go_wp2
      go_ret
      refine ⟨congrArg (fun b => Ending.returned (.bool b)) ?_, B.out⟩
      simp_all [List.isEmpty_iff, len_dec]
    · have h1' : (k == 1) = false := by simp [h1]
      by_cases h2 : k = 2
      · subst h2
        by_cases hi : i = 0
        · subst hi
          go_enter Try.func16, Try.ntmps16
          go_wp2
          go_ret
          refine ⟨congrArg (fun b => Ending.returned (.bool b)) ?_, B.out⟩
          simp_all [List.isEmpty_iff, len_dec]
        · have hi' : (i == 0) = false := by simp [hi]
          go_enter Try.func16, Try.ntmps16
          go_wp2
          go_ret
          refine ⟨congrArg (fun b => Ending.returned (.bool b)) ?_, B.out⟩
          simp_all [List.isEmpty_iff, len_dec]
      · have h2' : (k == 2) = false := by simp [h2]
        go_enter Try.func16, Try.ntmps16
        go_wp2
        go_ret
        refine ⟨congrArg (fun b => Ending.returned (.bool b)) ?_, B.out⟩
        simp_all [List.isEmpty_iff, len_dec]
end Go.Proofs.Ytacmidfcocjdjaa
