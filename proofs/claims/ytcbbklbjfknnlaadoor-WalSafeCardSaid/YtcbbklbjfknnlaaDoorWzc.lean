/-
  WAL: Open of a disk with records on it.
-/
import Derived.Test.YtcbbklbjfknnlaaDoorWzb
import Derived.Test.YtcbbklbjfknnlaaDoorWx
set_option linter.unusedVariables false
set_option linter.unusedSimpArgs false
set_option maxRecDepth 100000
namespace Go.Proofs.YtcbbklbjfknnlaaDoor
open Go.RowKit
section
variable {base : Nat} {w : World} {db sb n : Nat} {vw : Value} {S : List (List UInt8)} {Q : List Wr}

/-- What Open gives. -/
def OpenS (base db sb n : Nat) (vw : Value) (S : List (List UInt8)) (Q : List Wr) (Bs : List (List UInt8)) (w : World) (e : Ending) (w' : World) : Prop :=
  ∃ lb rv R, e = .returned (.tuple #[.pointer (some ⟨lb, 0, none⟩), .int .i64 0]) ∧ R.map (·.b) = Bs ∧ Lg base w' lb db sb n vw rv S Q ⟨newK S h0 2, offs Bs Bs.length, false, Q.length, false⟩ R ∧ w.heap.size ≤ lb ∧ (∀ k, blk rv = some k → w.heap.size ≤ k) ∧ Below w.heap.size w w'

set_option maxHeartbeats 2000000 in
theorem open_some (hD : Dk base w db sb n vw S Q false 0) (hn : 3 ≤ n) (ht : ∀ j, j ≤ 131072 → nmb n (newK S h0 2) j < 18446744073709551616) (Bs : List (List UInt8)) (ho : Ond n S (newK S h0 2) Bs) :
    Calls Tryd.prog 8 #[.pointer (some ⟨db, 0, none⟩)] w (OpenS base db sb n vw S Q Bs w) := by
  have CD := hid (down_any hD)
  have CW := hid (waiting_any hD)
  have hb1 : Below w.heap.size w (w.alloc (.cells #[.pointer (some ⟨db, 0, none⟩), .int .u64 0, .int .u64 0, .int .i64 0, .int .i64 0, .slice none 0 0, .int .i64 0, .bool false, .int .i64 (Q.length : Int), .bool false] 57)) := (Below.refl _ _).alloc (Nat.le_refl _) _
  have hL1 : Lk (w.alloc (.cells #[.pointer (some ⟨db, 0, none⟩), .int .u64 0, .int .u64 0, .int .i64 0, .int .i64 0, .slice none 0 0, .int .i64 0, .bool false, .int .i64 (Q.length : Int), .bool false] 57)) w.heap.size db (.slice none 0 0) ⟨h0, 0, false, Q.length, false⟩ := heap_alloc_new _ _
  have hlb : ¬ DX db sb vw w.heap.size := fun hj => by have := (hD.lt _ hj).2; omega
  have CL := hid (load_some hL1 rfl (hD.old hb1) hlb (newK_ok hD.len h0_ok 2 (by have := hD.few.1; omega)) hn ht Bs ho)
  have HB1 := hid hb1
  have HD := hid hD
  have HNL := hid hlb
  have hs1 : (w.alloc (.cells #[.pointer (some ⟨db, 0, none⟩), .int .u64 0, .int .u64 0, .int .i64 0, .int .i64 0, .slice none 0 0, .int .i64 0, .bool false, .int .i64 (Q.length : Int), .bool false] 57)).heap.size = w.heap.size + 1 := by simp
  have HS1 := hid hs1
  clear hD hb1 hL1 hlb ht ho hs1
  go_enter Tryd.func8, Tryd.ntmps8
  go_wp2_with (first
    | (go_at_call 21; refine CD.out.mono ?_; rintro e w2 ⟨rfl, rfl⟩)
    | (go_at_call 22; refine CW.out.mono ?_; rintro e w3 ⟨rfl, rfl⟩)
    | (go_at_call 24; refine CL.out.mono ?_))
  rintro e w4 ⟨rfl, rv, R, hR, hI⟩
  have HI := hid hI
  have HR := hid hR
  clear hI hR
  go_wp2_with (first | (go_at_call 23; refine (told_ok _ _).mono ?_; rintro e w5 ⟨rfl, rfl⟩))
  go_ret2
  have hI := HI.out
  have hR := HR.out
  have hw1 := HS1.out
  have hkeep := hI.keep
  have hrvn := hI.rvn
  have hrn := hI.rn
  have hlt := fun k hk => (HD.out.lt k hk).2
  have hbs := HD.out.base_le
  rw [hw1] at hrvn hrn
  have hb4 : Below w3.heap.size w3 w5 := HB1.out.trans (hkeep.below (by rw [hw1]; omega) (fun k e => by omega))
  have hnd : ∀ k, w3.heap.size + 1 ≤ k → ¬ DL db sb vw w3.heap.size k := fun k hk e => by
    rcases e with e | e
    · omega
    · have := hlt k e; omega
  refine ⟨w3.heap.size, rv, R, rfl, hR, ⟨HD.out.old hb4, hI.lk, HNL.out, hI.rof, fun k hk => hnd k (hrvn k hk), fun r hr hne a ha e => ?_, ⟨hbs, fun k hk => by have := hrvn k hk; omega⟩⟩, Nat.le_refl _, fun k hk => by have := hrvn k hk; omega, hb4⟩
  rcases e with e | e
  · exact hnd _ (hrn r hr hne a ha).1 e
  · exact (hrn r hr hne a ha).2 e
end
end Go.Proofs.YtcbbklbjfknnlaaDoor
