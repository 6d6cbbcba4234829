/-
  WAL: pieces.
-/
import Derived.Test.YtcbbklbjfknnlaaDoorWc
set_option linter.unusedVariables false
set_option maxRecDepth 100000
namespace Go.Proofs.YtcbbklbjfknnlaaDoor
open Go.RowKit Go.Shelf

/-- What Chunk and pieces give: a function over two blocks of its own. -/
def ChunkA (ao : Option Addr) (m c : Nat) (w : World) (e : Ending) (w' : World) : Prop :=
  ∃ Bs Bn, e = .returned (.func (.func 72) #[] #[.pointer (some ⟨Bs, 0, none⟩), .pointer (some ⟨Bn, 0, none⟩)]) ∧ w.heap.size ≤ Bs ∧ w.heap.size ≤ Bn ∧ w'.heap[Bs]? = some (.cells #[.slice ao m c] 32 (0, 0)) ∧ w'.heap[Bn]? = some (.cells #[.int .i64 56] 3 (0, 0)) ∧ Below w.heap.size w w'

theorem chunk_any (w : World) (ao : Option Addr) (m c : Nat) : Calls Tryd.prog 61 #[.slice ao m c, .int .i64 56] w (ChunkA ao m c w) := by
  go_enter Tryd.func61, Tryd.ntmps61
  go_wp2_with fail
  go_ret
  exact ⟨w.heap.size, w.heap.size + 1, rfl, Nat.le_refl _, by omega, (Below.heap_alloc _ _ _ (by simp)).trans (heap_alloc_new _ _), heap_alloc2_new _ _ _, ((Below.refl _ _).alloc (Nat.le_refl _) _).alloc (by simp) _⟩

/-- What a record's sectors hold. -/
def recB (l : List UInt8) : List UInt8 := le8 l.length ++ l
def PiecesA (l : List UInt8) (w : World) (e : Ending) (w' : World) : Prop :=
  ∃ Bs Bn x, e = .returned (.func (.func 72) #[] #[.pointer (some ⟨Bs, 0, none⟩), .pointer (some ⟨Bn, 0, none⟩)]) ∧ w.heap.size ≤ Bs ∧ w.heap.size ≤ Bn ∧ w'.heap[Bs]? = some (.cells #[x] 32 (0, 0)) ∧ w'.heap[Bn]? = some (.cells #[.int .i64 56] 3 (0, 0)) ∧ w'.ownsRow w.heap.size 5 1 x (recB l).length ((recB l).map bv) ∧ Below w.heap.size w w'

theorem pieces_any (w : World) (x : Value) (l : List UInt8) (h : Rd w x l) (hl : l.length ≤ 32768) : Calls Tryd.prog 43 #[x] w (PiecesA l w) := by
  obtain ⟨ao, c, rfl, -⟩ := id h
  have hlen := fun W => run_len_slice (P := Tryd.prog) W 32 3 ao l.length c Tryd.underlying32
  have h1 : IntKind.u64.wrap (l.length : Int) = (l.length : Int) := by rw [wrap_u64]; omega
  have CL := hid (little_any w l.length (by omega))
  have H := hid h
  obtain ⟨m, hm⟩ : ∃ m, m = l.length := ⟨_, rfl⟩
  rw [← hm] at hlen h1 CL ⊢
  have HM := hid hm
  clear h hm
  go_enter Tryd.func43, Tryd.ntmps43
  go_wp2_with (first | (go_at_call 62; refine CL.out.mono ?_))
  rintro e w2 ⟨y, rfl, hy, hb2⟩
  obtain ⟨yo, yc, rfl⟩ := own_form hy
  have HX2 : Hid (Rd w2 (.slice ao m c) l) := by
    have := H.out.old hb2
    rw [← HM.out] at this
    exact this
  have HO2 := hid hy
  have HB2 := hid hb2
  have HF : Hid ((le8 m).length + l.length ≤ 140737488355328) := by show _ ≤ _; rw [le8_len]; omega
  clear hy hb2
  go_wp2_with (first
    | (at_builtin; refine wp_app rfl _ _ 32 rfl w.heap.size 5 Tryd.underlying32 (by kernel_rfl) _ (le8 m).length _ rfl HO2.out _ l rfl HX2.out HF.out HB2.out.size ?_))
  intro v3 w3 o3 g3
  obtain ⟨vo, vc, rfl⟩ := own_form o3
  have HB3 : Hid (Below w.heap.size w w3) := HB2.out.grown g3 HB2.out.size (fun k e => (HO2.out.lt k e).1)
  have HO3 := hid o3
  clear o3 g3
  go_wp2_with (first | (go_at_call 61; refine (chunk_any _ _ _ _).mono ?_))
  rintro e w4 ⟨Bs, Bn, rfl, q1, q2, q3, q4, q5⟩
  have HB4 := hid (HB3.out.trans (q5.mono HB3.out.size))
  have HO4 := hid (own_old HO3.out q5)
  have HB34 := hid HB3.out.size
  have HQ := hid (And.intro q1 (And.intro q2 (And.intro q3 q4)))
  clear q1 q2 q3 q4 q5
  go_wp2_with fail
  go_ret
  obtain ⟨q1, q2, q3, q4⟩ := HQ.out
  refine ⟨Bs, Bn, _, rfl, Nat.le_trans HB34.out q1, Nat.le_trans HB34.out q2, q3, q4, ?_, HB4.out⟩
  have h9 := HO4.out
  have e1 : (recB l).length = (le8 m).length + l.length := by unfold recB; rw [List.length_append, ← HM.out]
  have e2 : (recB l).map bv = (le8 m).map bv ++ l.map bv := by unfold recB; rw [List.map_append, ← HM.out]
  rw [e1, e2]
  exact h9
end Go.Proofs.YtcbbklbjfknnlaaDoor
