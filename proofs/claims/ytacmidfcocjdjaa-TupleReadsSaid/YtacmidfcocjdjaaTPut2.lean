/-
  THE CODE's PUT AND ENC: a value's bytes behind others; the bytes of values.
-/
import Derived.Test.YtacmidfcocjdjaaTPut
namespace Go.Proofs.Ytacmidfcocjdjaa
open Go.RowKit

theorem box_cells {w : World} {v : Vl} : (w.alloc (.cells #[.int .i64 v.k, .int .i64 v.i, .string ⟨v.s.toArray⟩] 24)).heap[w.heap.size]? = some (.cells #[.int .i64 v.k, .int .i64 v.i, .string ⟨v.s.toArray⟩] 24 (0, 0)) := heap_alloc_new _ _

theorem three_cells {w : World} {b : Nat} {x y z : Value} {t : TypeId} (h : w.heap[b]? = some (.cells #[x, y, z] t (0, 0))) :
    w.cell? ⟨b, 0, none⟩ = some x ∧ w.cell? ⟨b, 1, none⟩ = some y ∧ w.cell? ⟨b, 2, none⟩ = some z := by
  simp [World.cell?, h]

set_option maxHeartbeats 2000000 in
set_option maxRecDepth 100000 in
/-- put: the value's bytes behind b. -/
theorem put_any (base : Nat) (x : Value) (pre : List UInt8) (v : Vl) (w : World) (hx : w.ownsRow base 5 1 x pre.length (pre.map bv)) (hb : base ≤ w.heap.size) (hl : pre.length ≤ 90000) (hv : okV v) (hi : inV v) :
    Calls Try.prog 31 #[x, sv v] w (Puts base w (pre ++ valB v)) := by
  obtain ⟨i0, hi', hz0, hz1, hz2⟩ := info_parts Try.info_u8
  have HX := hid hx
  have HB := hid hb
  have HV := hid hi
  clear hx hb hi
  have hk : v.k = 0 ∨ v.k = 1 ∨ v.k = 2 := by rcases hv with ⟨h, -⟩ | ⟨h, -⟩ | ⟨h, -⟩ <;> simp [h]
  have hs : v.k = 2 → v.s.length ≤ 20 := fun h => by rcases hv with ⟨h1, -⟩ | ⟨h1, -⟩ | ⟨-, -, h2⟩; omega; omega; exact h2
  obtain ⟨k, i, s⟩ := v
  simp only at hk hs
  have HK := hid hk
  have HS := hid hs
  have C := fun w => kind_any k w hk
  have Bx := hid (box_cells (w := w) (v := ⟨k, i, s⟩))
  have B1 := hid ((Below.refl base w).alloc HB.out (.cells #[.int .i64 k, .int .i64 i, .string ⟨s.toArray⟩] 24))
  clear hv hk hs
  unfold sv
  simp only at Bx ⊢
  go_enter Try.func31, Try.ntmps31
  have hown : (w.alloc (.cells #[.int .i64 k, .int .i64 i, .string ⟨s.toArray⟩] 24)).ownsRow base 5 1 x pre.length (pre.map bv) := HX.out.alloc _
  have HSZ : Hid ((w.alloc (.cells #[.int .i64 k, .int .i64 i, .string ⟨s.toArray⟩] 24)).heap.size = w.heap.size + 1) := by simp [Hid]
  go_wp2_with (first
    | (go_at_call 40; refine (C _).mono ?_; rintro e w' ⟨rfl, rfl⟩)
    | (at_builtin; refine wpList_append_own _ rfl _ _ 27 rfl base 5 i0 (.int .u8 0) 1 1 Try.underlying27 hi' hz0 hz1 hz2 rfl (by decide) _ _ _ rfl (hown.alloc _) ⟨w.heap.size + 1, 0, none⟩ 1 1 [bv (kindB k)] rfl rfl ?c1 ?c2 ?c3 ?c4 ?c5 ?_))
  case c1 => intro j u hj; have h := cell_one_new (w.alloc (.cells #[.int .i64 k, .int .i64 i, .string ⟨s.toArray⟩] 24)) _ 5 j u hj; rw [HSZ.out] at h; exact h
  case c2 => exact bv_one [_]
  case c3 => unfold maxLen; simp; omega
  case c4 => simp; omega
  case c5 => have := HB.out; simp; omega
  intro x1 w1 hown1 hg1 _
  obtain ⟨p1, p2⟩ := put_step B1.out HB.out hown hown1 hg1
  have hbl : x.ownBlock ≠ some w.heap.size := by
    intro h
    have := (HX.out.lt _ h).2
    omega
  have hb1 : w1.heap[w.heap.size]? = some (.cells #[.int .i64 k, .int .i64 i, .string ⟨s.toArray⟩] 24 (0, 0)) := by
    refine heap_kept hg1 (alloc_old Bx.out) (fun h => hbl h.symm)
  obtain ⟨d1, d2, d3⟩ := three_cells hb1
  have P2 := hid p2
  have P1 := hid p1
  have HB1 : Hid (base ≤ w1.heap.size) := Nat.le_trans HB.out p2.size
  clear hown hown1 hg1 hb1 hbl p1 p2 Bx B1
  have hl2 : (pre ++ [kindB k]).length ≤ 100000 := by simp; omega
  rcases HK.out with rfl | rfl | rfl
  · go_wp2
    go_ret
    refine ⟨_, rfl, ?_, P2.out⟩
    have e : valB ⟨0, i, s⟩ = [kindB 0] := rfl
    rw [e]; exact P1.out
  · have hv1 := HV.out
    unfold inV at hv1
    have C1 := fun y (h : w1.ownsRow base 5 1 y _ _) => putInt_any base y (pre ++ [kindB 1]) i w1 h HB1.out hl2 hv1.1 hv1.2
    clear hv1
    go_wp2_with (first | (go_at_call 41; refine (C1 _ P1.out).mono ?_; rintro e w2 ⟨y, rfl, q1, q2⟩))
    go_ret
    have e : pre ++ [kindB 1] ++ be 8 (i + 9223372036854775808).toNat = pre ++ valB ⟨1, i, s⟩ := by rw [List.append_assoc]; rfl
    rw [e] at q1
    exact ⟨_, rfl, q1, P2.out.trans q2⟩
  · have hs := HS.out rfl
    have C1 := fun y (h : w1.ownsRow base 5 1 y _ _) => putText_any base y (pre ++ [kindB 2]) s w1 h HB1.out hl2 hs
    clear hs
    go_wp2_with (first | (go_at_call 42; refine (C1 _ P1.out).mono ?_; rintro e w2 ⟨y, rfl, q1, q2⟩))
    go_ret
    have e : pre ++ [kindB 2] ++ textB s = pre ++ valB ⟨2, i, s⟩ := by rw [List.append_assoc]; rfl
    rw [e] at q1
    exact ⟨_, rfl, q1, P2.out.trans q2⟩
end Go.Proofs.Ytacmidfcocjdjaa
