/-
  WAL: armoirelaw06.awake, and all calls on a nil log.
-/
import Derived.Test.YtcbbklbjfknnlaaDoorWx
import Derived.Lib.SlBytesConst
set_option linter.unusedVariables false
set_option linter.unusedSimpArgs false
set_option maxRecDepth 100000
namespace Go.Proofs.YtcbbklbjfknnlaaDoor
open Go.RowKit

/-- A literal of one byte, just made. -/
theorem one_byte (w : World) (u : UInt8) : Rd (w.alloc (.cells #[bv u] 5 (1, 2))) (.slice (some ⟨w.heap.size, 0, none⟩) ([u] : List UInt8).length 1) [u] := by
  refine ⟨_, 1, rfl, by simp, by decide, (fun h => by cases h), fun a ha j v hv => ?_⟩
  cases ha
  rcases j with _ | j
  · simp at hv
    subst hv
    have hh := heap_alloc_new w (.cells #[bv u] 5 (1, 2))
    show World.cell? _ ⟨w.heap.size, 0, none⟩ = _
    unfold World.cell?
    rw [hh]
    rfl
  · simp at hv

theorem app_one {base : Nat} {w : World} {lb db sb n t f q : Nat} {vw rv : Value} {R : List Rc} (u : UInt8) (z : Int) (hz : bv u = .int .u8 z) (h : Live base lb db sb n vw rv R t f q w) (hn : 3 ≤ n) (ht : t < 1000000000) (hq : q ≤ 90000) (hfit : gones R R.length + 1 ≤ n - 2) (hR : R.length + 1 ≤ 1000000) :
    Calls Tryd.prog 11 #[.pointer (some ⟨lb, 0, none⟩), .slice (some ⟨w.heap.size, 0, none⟩) 1 1] (w.alloc (.cells #[.int .u8 z] 5 (1, 2))) (fun e w' => e = .returned (.int .i64 0) ∧ ∃ vw' rv' r, r.b = [u] ∧ Live base lb db sb n vw' rv' (R ++ [r]) (t + 1) f (q + 1) w' ∧ Gfr db sb lb vw vw' rv rv' w w') := by
  rw [← hz]
  have e1 : secs ([u] : List UInt8).length = 1 := by simp [secs]
  have hb : Below w.heap.size w (w.alloc (.cells #[bv u] 5 (1, 2))) := (Below.refl _ _).alloc (Nat.le_refl _) _
  refine (append_live (h.old hb) (one_byte w u) (by simp) hn ht hq (by rw [e1]; exact hfit) hR (fun _ k hk e => ?_)).mono ?_
  · obtain ⟨S, Q, L, h⟩ := h
    have := (h.g.lt k e).2
    have : w.heap.size = k := by simpa [blk] using hk
    omega
  · rintro e w' ⟨rfl, vw', rv', r, h1, h2, h3⟩
    rw [e1] at h2
    exact ⟨rfl, vw', rv', r, h1, h2, (Gfr.of_below hb).trans h3⟩

theorem live_below {base lb db sb n t f q : Nat} {vw rv vw' rv' : Value} {R : List Rc} {w w' : World} (h : Live base lb db sb n vw rv R t f q w) (hf : Gfr db sb lb vw vw' rv rv' w w') : Below base w w' := by
  obtain ⟨S, Q, L, h⟩ := h
  exact h.g.below hf

/-- One record alone: what the list of records holds. -/
theorem one_rec {B : Nat} {w : World} {y : Value} {R' : List Rc} {l : List UInt8} (h : Rown B w y R') (hl : R'.map (·.b) = [l]) : ∃ g c, y = .slice (some ⟨g, 0, none⟩) 1 c ∧ ∃ r, w.cell? ⟨g, 0, none⟩ = some (rcv r) ∧ Rd w (rcv r) l := by
  obtain ⟨r, rfl, rfl⟩ : ∃ r, R' = [r] ∧ r.b = l := by
    rcases R' with _ | ⟨r, _ | ⟨s, R'⟩⟩
    · simp at hl
    · exact ⟨r, rfl, by simpa using hl⟩
    · simp at hl
  obtain ⟨g, c, rfl⟩ := ownsRow_succ (k := 0) h.row
  exact ⟨g, c, rfl, r, by rw [h.row.cellAt 0 (by simp)]; rfl, h.each r (by simp)⟩

set_option maxHeartbeats 8000000 in
theorem wawake_any (w : World) : Calls Tryd.prog 9 #[] w (AnsP w (.bool true)) := by
  have CN : Hid (Calls Tryd.prog 7 #[.int .i64 100] w (NewA 100 w)) := new_any 100 (by omega) (by omega) w
  go_enter Tryd.func9, Tryd.ntmps9
  go_wp2_with (first | (go_at_call 7; refine CN.out.mono ?_))
  rintro e w1 ⟨db, sb, rfl, hD1, hb1⟩
  have CO := hid (open_new hD1 (by omega))
  have HB1 := hid hb1
  clear hD1 hb1
  go_wp2_with (first | (go_at_call 8; refine CO.out.mono ?_))
  rintro e w2 ⟨lb, rfl, hL2, hlb, hb2⟩
  have HB2 : Hid (Below w.heap.size w w2) := HB1.out.trans (hb2.mono HB1.out.size)
  have CA := hid (app_one 97 97 rfl hL2 (by omega) (by omega) (by omega) (by decide) (by simp))
  have HL2 := hid hL2
  have cv2 := Lib.run_convert_bytes_const (P := Tryd.prog) w2 32 5 #[.int .u8 97] 1 1 Tryd.underlying32 Tryd.underlying5
  simp only [List.size_toArray, List.length_cons, List.length_nil, Nat.reduceAdd] at cv2
  clear hL2 hb2 hlb
  go_wp2_with (first | (go_at_call 11; refine CA.out.mono ?_))
  rintro e w3 ⟨rfl, vw3, rv3, r3, h31, h32, h33⟩
  have HB3 : Hid (Below w.heap.size w w3) := HB2.out.trans (live_below HL2.out h33)
  have hL3 : Live w.heap.size lb db sb 100 vw3 rv3 [r3] 1 0 1 w3 := h32
  have CA3 := hid (app_one 98 98 rfl hL3 (by omega) (by omega) (by omega) (by simp [gones, h31, secs]) (by simp))
  have HL3 := hid hL3
  have H31 := hid h31
  have cv3 := Lib.run_convert_bytes_const (P := Tryd.prog) w3 32 5 #[.int .u8 98] 1 1 Tryd.underlying32 Tryd.underlying5
  simp only [List.size_toArray, List.length_cons, List.length_nil, Nat.reduceAdd] at cv3
  clear hL3 h31 h32 h33
  go_wp2_with (first | (go_at_call 11; refine CA3.out.mono ?_))
  rintro e w4 ⟨rfl, vw4, rv4, r4, h41, h42, h43⟩
  have HB4 : Hid (Below w.heap.size w w4) := HB3.out.trans (live_below HL3.out h43)
  have hL4 : Live w.heap.size lb db sb 100 vw4 rv4 [r3, r4] 2 0 2 w4 := h42
  have CS4 := hid (sync_live hL4)
  have HL4 := hid hL4
  have H41 := hid h41
  clear hL4 h41 h42 h43
  go_wp2_with (first | (go_at_call 12; refine CS4.out.mono ?_))
  rintro e w5 ⟨rfl, vw5, hL5, h53⟩
  have HB5 : Hid (Below w.heap.size w w5) := HB4.out.trans (live_below HL4.out h53)
  have CC5 : Hid (Calls Tryd.prog 20 #[.pointer (some ⟨lb, 0, none⟩), .int .u64 1] w5 (fun e w' => e = .returned (.int .i64 0) ∧ CuP w.heap.size lb db sb 100 vw5 rv4 [r3, r4] 2 0 1 w5 w')) := cut_live hL5 1 (by simp) (by omega) (by omega) (by omega) (by omega) (by simp)
  have HL5 := hid hL5
  clear hL5 h53
  go_wp2_with (first | (go_at_call 20; refine CC5.out.mono ?_))
  rintro e w6 ⟨rfl, vw6, rv6, h62, h63⟩
  have HB6 : Hid (Below w.heap.size w w6) := HB5.out.trans (live_below HL5.out h63)
  have hL6 : Live w.heap.size lb db sb 100 vw6 rv6 [r4] 3 1 0 w6 := h62
  have CR6 := hid (records_live hL6 (by simp))
  have HL6 := hid hL6
  clear hL6 h62 h63
  go_wp2_with (first | (go_at_call 18; refine CR6.out.mono ?_))
  rintro e w7 ⟨y, R', rfl, hy, hR', hb7⟩
  have hl9 : R'.map (·.b) = [[98]] := by rw [hR']; simp [H41.out]
  obtain ⟨g, c, rfl, r, hcell, hrd⟩ := one_rec hy hl9
  have HB7 : Hid (Below w.heap.size w w7) := HB6.out.trans (hb7.mono HB6.out.size)
  have CF7 := hid (first_live (HL6.out.old hb7))
  have hconv := hrd.conv (P := Tryd.prog) 32 9 5 Tryd.underlying32 Tryd.underlying5 Tryd.underlying9
  have hl := fun V => run_len_slice (P := Tryd.prog) V 22 3 (some ⟨g, 0, none⟩) 1 c Tryd.underlying22
  clear hy hR' hl9 hb7 hrd
  go_wp2_with (first | (go_at_call 16; refine CF7.out.mono ?_; rintro e w8 ⟨rfl, rfl⟩))
  go_ret
  exact ⟨rfl, HB7.out⟩

theorem none_nil (w : World) : Calls Tryd.prog 25 #[.pointer none] w (fun e w' => e = .returned (.bool true) ∧ w' = w) := by
  go_enter Tryd.func25, Tryd.ntmps25
  go_wp2_with fail
  go_ret
  exact ⟨rfl, rfl⟩
theorem wopen_nil (w : World) : Calls Tryd.prog 8 #[.pointer none] w (fun e w' => e = .returned (.tuple #[.pointer none, .int .i64 2]) ∧ w' = w) := by
  go_enter Tryd.func8, Tryd.ntmps8
  go_wp2_with fail
  go_ret2
  exact ⟨rfl, rfl⟩
theorem wappend_nil (x : Value) (w : World) : Calls Tryd.prog 11 #[.pointer none, x] w (fun e w' => e = .returned (.int .i64 2) ∧ w' = w) := by
  go_enter Tryd.func11, Tryd.ntmps11
  go_wp2_with (first | (go_at_call 25; refine (none_nil _).mono ?_; rintro e w2 ⟨rfl, rfl⟩))
  go_ret
  exact ⟨rfl, rfl⟩
theorem wsync_nil (w : World) : Calls Tryd.prog 12 #[.pointer none] w (fun e w' => e = .returned (.int .i64 2) ∧ w' = w) := by
  go_enter Tryd.func12, Tryd.ntmps12
  go_wp2_with (first | (go_at_call 25; refine (none_nil _).mono ?_; rintro e w2 ⟨rfl, rfl⟩))
  go_ret
  exact ⟨rfl, rfl⟩
theorem wcut_nil (x : Value) (w : World) : Calls Tryd.prog 20 #[.pointer none, x] w (fun e w' => e = .returned (.int .i64 2) ∧ w' = w) := by
  go_enter Tryd.func20, Tryd.ntmps20
  go_wp2_with (first | (go_at_call 25; refine (none_nil _).mono ?_; rintro e w2 ⟨rfl, rfl⟩))
  go_ret
  exact ⟨rfl, rfl⟩
theorem wfirst_nil (w : World) : Calls Tryd.prog 16 #[.pointer none] w (fun e w' => e = .returned (.int .u64 0) ∧ w' = w) := by
  go_enter Tryd.func16, Tryd.ntmps16
  go_wp2_with fail
  go_ret
  exact ⟨rfl, rfl⟩
theorem wnext_nil (w : World) : Calls Tryd.prog 15 #[.pointer none] w (fun e w' => e = .returned (.int .u64 0) ∧ w' = w) := by
  go_enter Tryd.func15, Tryd.ntmps15
  go_wp2_with fail
  go_ret
  exact ⟨rfl, rfl⟩
theorem wrecords_nil (w : World) : Calls Tryd.prog 18 #[.pointer none] w (fun e w' => e = .returned (.slice none 0 0) ∧ w' = w) := by
  go_enter Tryd.func18, Tryd.ntmps18
  go_wp2_with fail
  go_ret
  exact ⟨rfl, rfl⟩
end Go.Proofs.YtcbbklbjfknnlaaDoor
