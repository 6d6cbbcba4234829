/-
  WAL: Open where there is no record.
-/
import Derived.Test.YtcbbklbjfknnlaaDoorWp
set_option linter.unusedVariables false
set_option maxRecDepth 100000
namespace Go.Proofs.YtcbbklbjfknnlaaDoor
open Go.RowKit

section
variable {base : Nat} {w : World} {lb db sb n : Nat} {vw rv : Value} {S : List (List UInt8)} {Q : List Wr} {dn : Bool} {lf : Nat} {L : Ls}

theorem record_none (h : Lk w lb db rv L) (hD : Dk base w db sb n vw S Q false lf) (hk : L.h.Ok) (i : Nat) (hi : i ≤ 131072) (hn : 3 ≤ n) (ht : ∀ j, j ≤ 131072 → nmb n L.h j < 18446744073709551616) (hp : pieceM S n L.h i = none) :
    Calls Tryd.prog 38 #[.pointer (some ⟨lb, 0, none⟩), .int .i64 (i : Int)] w (fun e w' => e = .returned (.tuple #[.slice none 0 0, .nilIface]) ∧ Below w.heap.size w w') := by
  have CP0 := piece_any h hD hk i hi hn ht
  rw [hp] at CP0
  have CP : Hid (Calls Tryd.prog 55 #[.pointer (some ⟨lb, 0, none⟩), .int .i64 (i : Int)] w (fun e w' => e = .returned (.tuple #[.slice none 0 0, .nilIface]) ∧ Below w.heap.size w w')) := CP0.mono (fun e w' h => by
    obtain ⟨hb, ⟨-, he⟩ | ⟨b, g, c, hb2, -⟩⟩ := h
    · exact ⟨he, hb⟩
    · cases hb2)
  clear CP0 h hD ht hp
  have heq := fun W => Lib.run_eql_slice_nil (P := Tryd.prog) W 32 5 none 0 0 0 0 Tryd.underlying32
  go_enter Tryd.func38, Tryd.ntmps38
  go_wp2_with (first | (go_at_call 55; refine CP.out.mono ?_; rintro e w2 ⟨rfl, hb⟩))
  go_ret2
  exact ⟨rfl, hb⟩

set_option maxHeartbeats 2000000 in
theorem load_none (h : Lk w lb db rv L) (hD : Dk base w db sb n vw S Q false lf) (hlb : ¬ DX db sb vw lb) (hk : (newK S L.h 2).Ok) (hu : L.used ≤ 131072) (hn : 3 ≤ n) (ht : ∀ j, j ≤ 131072 → nmb n (newK S L.h 2) j < 18446744073709551616) (hp : pieceM S n (newK S L.h 2) L.used = none) :
    Calls Tryd.prog 24 #[.pointer (some ⟨lb, 0, none⟩)] w (fun e w' => e = .returned .nilIface ∧ Lk w' lb db rv { L with h := newK S L.h 2 } ∧ Keep (fun k => k = lb) w w') := by
  have CN := hid (newest_ok h hD hlb (by omega))
  have HD := hid hD
  have HN := hid hlb
  clear h hD hlb
  go_enter Tryd.func24, Tryd.ntmps24
  go_wp2_with (first | (go_at_call 37; refine CN.out.mono ?_))
  rintro e w2 ⟨rfl, hL2, hK2⟩
  have CR := hid (record_none hL2 (HD.out.kept hK2 (fun j hj e => HN.out (by rw [← e]; exact hj))) hk L.used hu hn ht hp)
  obtain ⟨c0, c1, c2, c3, c4, c5, c6, -⟩ := hL2.cells
  have HL2 := hid hL2
  have HK2 := hid hK2
  clear hL2 hK2 hp ht hk
  have heq := fun W => Lib.run_eql_slice_nil (P := Tryd.prog) W 32 5 none 0 0 0 0 Tryd.underlying32
  go_wp2_with fail
  refine wp_loop_rounds 1 ?_
  rw [rounds_succ]
  go_wp2_with (first | (go_at_call 38; refine CR.out.mono ?_; rintro e w3 ⟨rfl, hb3⟩))
  go_ret
  exact ⟨rfl, HL2.out.old hb3, HK2.out.trans (Keep.of_below hb3)⟩

def h0 : Hd := ⟨0, 0, 0, 0⟩
theorem h0_ok : h0.Ok := ⟨by decide, by decide, by decide, by decide⟩
/-- What Open gives where there is no record. -/
def OpenA (db : Nat) (S : List (List UInt8)) (q : Nat) (w : World) (e : Ending) (w' : World) : Prop :=
  ∃ lb, e = .returned (.tuple #[.pointer (some ⟨lb, 0, none⟩), .int .i64 0]) ∧ w.heap.size ≤ lb ∧ Lk w' lb db (.slice none 0 0) ⟨newK S h0 2, 0, false, q, false⟩ ∧ Below w.heap.size w w'

set_option maxHeartbeats 2000000 in
theorem open_none (hD : Dk base w db sb n vw S Q false lf) (hn : 3 ≤ n) (ht : ∀ j, j ≤ 131072 → nmb n (newK S h0 2) j < 18446744073709551616) (hp : pieceM S n (newK S h0 2) 0 = none) :
    Calls Tryd.prog 8 #[.pointer (some ⟨db, 0, none⟩)] w (OpenA db S Q.length w) := by
  have CD := hid (down_any hD)
  have CW := hid (waiting_any hD)
  have hb1 : Below w.heap.size w (w.alloc (.cells #[.pointer (some ⟨db, 0, none⟩), .int .u64 0, .int .u64 0, .int .i64 0, .int .i64 0, .slice none 0 0, .int .i64 0, .bool false, .int .i64 (Q.length : Int), .bool false] 57)) := (Below.refl _ _).alloc (Nat.le_refl _) _
  have hL1 : Lk (w.alloc (.cells #[.pointer (some ⟨db, 0, none⟩), .int .u64 0, .int .u64 0, .int .i64 0, .int .i64 0, .slice none 0 0, .int .i64 0, .bool false, .int .i64 (Q.length : Int), .bool false] 57)) w.heap.size db (.slice none 0 0) ⟨h0, 0, false, Q.length, false⟩ := heap_alloc_new _ _
  have hlb : ¬ DX db sb vw w.heap.size := fun hj => by have := (hD.lt _ hj).2; omega
  have CL := hid (load_none hL1 (hD.old hb1) hlb (newK_ok hD.len h0_ok 2 (by have := hD.few.1; omega)) (Nat.zero_le _) hn ht hp)
  have HB1 := hid hb1
  clear hD hb1 hL1 hlb ht hp
  go_enter Tryd.func8, Tryd.ntmps8
  go_wp2_with (first
    | (go_at_call 21; refine CD.out.mono ?_; rintro e w2 ⟨rfl, rfl⟩)
    | (go_at_call 22; refine CW.out.mono ?_; rintro e w3 ⟨rfl, rfl⟩)
    | (go_at_call 24; refine CL.out.mono ?_))
  rintro e w4 ⟨rfl, hL4, hK4⟩
  have HL4 := hid hL4
  have HK4 := hid hK4
  clear hL4 hK4
  go_wp2_with (first | (go_at_call 23; refine (told_ok _ _).mono ?_; rintro e w5 ⟨rfl, rfl⟩))
  go_ret2
  refine ⟨_, rfl, Nat.le_refl _, HL4.out, ?_⟩
  exact (HB1.out).trans (HK4.out.below (Nat.le_of_lt (by simp)) (fun k e => by rw [e]; exact Nat.le_refl _))
end
end Go.Proofs.YtcbbklbjfknnlaaDoor
