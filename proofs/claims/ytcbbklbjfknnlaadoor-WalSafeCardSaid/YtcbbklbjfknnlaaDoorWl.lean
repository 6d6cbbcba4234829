/-
  WAL: a log in memory; its small functions.
-/
import Derived.Test.YtcbbklbjfknnlaaDoorWh
import Derived.Test.YtcbbklbjfknnlaaDoorDc
set_option linter.unusedVariables false
set_option maxRecDepth 100000
namespace Go.Proofs.YtcbbklbjfknnlaaDoor
open Go.RowKit

/-- A log's own state. -/
structure Ls where
  h : Hd
  used : Nat
  ours : Bool
  waits : Nat
  down : Bool

/-- A log in memory. -/
def Lk (w : World) (lb db : Nat) (rv : Value) (L : Ls) : Prop :=
  w.heap[lb]? = some (.cells #[.pointer (some ⟨db, 0, none⟩), .int .u64 (L.h.tn : Int), .int .u64 (L.h.fi : Int), .int .i64 (L.h.fr : Int), .int .i64 (L.h.su : Int), rv, .int .i64 (L.used : Int), .bool L.ours, .int .i64 (L.waits : Int), .bool L.down] 57 (0, 0))

theorem Lk.cells {w : World} {lb db : Nat} {rv : Value} {L : Ls} (h : Lk w lb db rv L) :
    w.cell? ⟨lb, 0, none⟩ = some (.pointer (some ⟨db, 0, none⟩)) ∧ w.cell? ⟨lb, 1, none⟩ = some (.int .u64 (L.h.tn : Int)) ∧ w.cell? ⟨lb, 2, none⟩ = some (.int .u64 (L.h.fi : Int)) ∧ w.cell? ⟨lb, 3, none⟩ = some (.int .i64 (L.h.fr : Int)) ∧ w.cell? ⟨lb, 4, none⟩ = some (.int .i64 (L.h.su : Int)) ∧
    w.cell? ⟨lb, 5, none⟩ = some rv ∧ w.cell? ⟨lb, 6, none⟩ = some (.int .i64 (L.used : Int)) ∧ w.cell? ⟨lb, 7, none⟩ = some (.bool L.ours) ∧ w.cell? ⟨lb, 8, none⟩ = some (.int .i64 (L.waits : Int)) ∧ w.cell? ⟨lb, 9, none⟩ = some (.bool L.down) := by
  unfold Lk at h
  simp [World.cell?, h]
theorem Lk.soft {w : World} {lb db : Nat} {rv : Value} {L : Ls} (h : Lk w lb db rv L) (o : Nat) : w.frozen? ⟨lb, o, none⟩ = false := by
  unfold Lk at h
  simp [World.frozen?, h]
theorem Lk.lt {w : World} {lb db : Nat} {rv : Value} {L : Ls} (h : Lk w lb db rv L) : lb < w.heap.size := lt_of_block h
theorem Lk.old {w w' : World} {lb db : Nat} {rv : Value} {L : Ls} (h : Lk w lb db rv L) (hb : Below w.heap.size w w') : Lk w' lb db rv L := (hb.block _ h.lt).trans h
theorem Lk.kept {w w' : World} {lb db : Nat} {rv : Value} {L : Ls} {X : Nat → Prop} (h : Lk w lb db rv L) (hk : Keep X w w') (hx : ¬ X lb) : Lk w' lb db rv L := (hk.block _ h.lt hx).trans h
theorem Lk.setWaits {w : World} {lb db : Nat} {rv : Value} {L : Ls} (h : Lk w lb db rv L) (m : Nat) : Lk (w.setCell ⟨lb, 8, none⟩ (.int .i64 (m : Int))) lb db rv { L with waits := m } := set_at (k := 8) (.int .i64 (m : Int)) h

section
variable {base : Nat} {w : World} {lb db sb n : Nat} {vw rv : Value} {S : List (List UInt8)} {Q : List Wr} {dn : Bool} {lf : Nat} {L : Ls}

theorem none_any (h : Lk w lb db rv L) : Calls Tryd.prog 25 #[.pointer (some ⟨lb, 0, none⟩)] w (fun e w' => e = .returned (.bool false) ∧ w' = w) := by
  obtain ⟨c0, -⟩ := h.cells
  clear h
  go_enter Tryd.func25, Tryd.ntmps25
  go_wp2_with fail
  go_ret
  exact ⟨rfl, rfl⟩
theorem first_any (h : Lk w lb db rv L) : Calls Tryd.prog 16 #[.pointer (some ⟨lb, 0, none⟩)] w (fun e w' => e = .returned (.int .u64 (L.h.fi : Int)) ∧ w' = w) := by
  obtain ⟨c0, c1, c2, -⟩ := h.cells
  clear h
  go_enter Tryd.func16, Tryd.ntmps16
  go_wp2_with fail
  go_ret
  exact ⟨rfl, rfl⟩
theorem next_any (h : Lk w lb db rv L) (m : Nat) (hr : ∃ ao c, rv = .slice ao m c) (hm : L.h.fi + m < 18446744073709551616) : Calls Tryd.prog 15 #[.pointer (some ⟨lb, 0, none⟩)] w (Draws w (.int .u64 ((L.h.fi + m : Nat) : Int))) := by
  obtain ⟨c0, c1, c2, c3, c4, c5, -⟩ := h.cells
  obtain ⟨ao, c, rfl⟩ := hr
  have hlen := fun W => run_len_slice (P := Tryd.prog) W 22 3 ao m c Tryd.underlying22
  have h1 : IntKind.u64.wrap (m : Int) = (m : Int) := by rw [wrap_u64]; omega
  have h2 : IntKind.u64.wrap ((L.h.fi : Int) + (m : Int)) = ((L.h.fi + m : Nat) : Int) := by rw [wrap_u64]; omega
  clear h
  go_enter Tryd.func15, Tryd.ntmps15
  go_wp2_with fail
  go_quiet (fail)
  go_wp2_with fail
  go_ret
  exact ⟨rfl, _, rfl⟩

theorem ring_any (h : Lk w lb db rv L) (hD : Dk base w db sb n vw S Q dn lf) : Calls Tryd.prog 28 #[.pointer (some ⟨lb, 0, none⟩)] w (fun e w' => e = .returned (.int .i64 ((n - 2 : Nat) : Int)) ∧ w' = w) := by
  obtain ⟨c0, -⟩ := h.cells
  have CS := hid (size_any hD)
  have hn := hD.few.2.1
  clear h hD
  have hor : (n < 2 ∧ n - 2 = 0) ∨ 2 ≤ n := by omega
  rcases hor with ⟨h2, h3⟩ | h2
  · have hw : IntKind.i64.wrap ((n : Int) - 2) = (n : Int) - 2 := by rw [IntKind.wrap_i64]; omega
    have hm : max ((n : Int) - 2) 0 = 0 := by omega
    have hm2 : ¬ (0 ≤ (n : Int) - 2) := by omega
    have hm3 : (n : Int) - 2 < 0 := by omega
    rw [h3]
    go_enter Tryd.func28, Tryd.ntmps28
    go_wp2_with (first | (go_at_call 41; refine CS.out.mono ?_; rintro e w2 ⟨rfl, rfl⟩))
    all_goals go_ret
    all_goals first | exact ⟨rfl, rfl⟩ | (refine ⟨?_, rfl⟩; congr 2; omega)
  · obtain ⟨m, rfl⟩ : ∃ m, n = m + 2 := ⟨n - 2, by omega⟩
    have hw : IntKind.i64.wrap (((m + 2 : Nat) : Int) - 2) = (m : Int) := by rw [IntKind.wrap_i64]; omega
    have hm : max (m : Int) 0 = (m : Int) := by omega
    have hm2 : ¬ ((m : Int) < 0) := by omega
    rw [show m + 2 - 2 = m from rfl]
    go_enter Tryd.func28, Tryd.ntmps28
    go_wp2_with (first | (go_at_call 41; refine CS.out.mono ?_; rintro e w2 ⟨rfl, rfl⟩))
    all_goals go_ret
    all_goals first | exact ⟨rfl, rfl⟩ | (refine ⟨?_, rfl⟩; congr 2; omega)

theorem ringN (h : Lk w lb db rv L) (hD : Dk base w db sb n vw S Q dn lf) (a : Nat) : Calls Tryd.prog 28 #[.pointer (some ⟨lb, 0, none⟩)] (w.drewN a) (fun e w' => e = .returned (.int .i64 ((n - 2 : Nat) : Int)) ∧ ∃ m, w' = w.drewN m) :=
  (ring_any (w := w.drewN a) (h.old ⟨rfl, rfl, rfl, Nat.le_refl _, fun _ _ => rfl⟩) (hD.old ⟨rfl, rfl, rfl, Nat.le_refl _, fun _ _ => rfl⟩)).mono fun _ _ h => ⟨h.1, a, h.2⟩

/-- Where the i-th sector from the head's place on lies. -/
def plc (n : Nat) (h : Hd) (i : Nat) : Nat := 2 + (h.fr + i) % (n - 2)
theorem place_any (h : Lk w lb db rv L) (hD : Dk base w db sb n vw S Q dn lf) (i : Nat) (hn : 3 ≤ n) (hf : L.h.fr ≤ 65536) (hi : i ≤ 131072) : Calls Tryd.prog 45 #[.pointer (some ⟨lb, 0, none⟩), .int .i64 (i : Int)] w (Draws w (.int .i64 (plc n L.h i : Int))) := by
  obtain ⟨c0, c1, c2, c3, -⟩ := h.cells
  have CR := ringN h hD
  have hn2 := hD.few.2.1
  obtain ⟨m, rfl⟩ : ∃ m, n = m + 2 := ⟨n - 2, by omega⟩
  rw [show m + 2 - 2 = m from rfl] at CR
  have h1 : IntKind.i64.wrap ((L.h.fr : Int) + (i : Int)) = ((L.h.fr + i : Nat) : Int) := by rw [IntKind.wrap_i64]; omega
  have h2 : (((L.h.fr + i : Nat) : Int)).tmod (m : Int) = (((L.h.fr + i) % m : Nat) : Int) := rfl
  have h2' : ((L.h.fr : Int) + (i : Int)).tmod (m : Int) = (((L.h.fr + i) % m : Nat) : Int) := h2
  have hlt : (L.h.fr + i) % m < m := Nat.mod_lt _ (by omega)
  have h3 : IntKind.i64.wrap (((L.h.fr + i) % m : Nat) : Int) = (((L.h.fr + i) % m : Nat) : Int) := by rw [IntKind.wrap_i64]; omega
  have h4 : Hid (wrap64 ((2 : Int) + ((L.h.fr : Int) + (i : Int)) % (m : Int)) = ((plc (m + 2) L.h i : Nat) : Int)) := by
    show _ = _
    have e1 : ((L.h.fr : Int) + (i : Int)) % (m : Int) = (((L.h.fr + i) % m : Nat) : Int) := by rw [Int.natCast_emod, Int.natCast_add]
    rw [e1]
    unfold plc
    rw [show m + 2 - 2 = m from rfl]
    generalize (L.h.fr + i) % m = q at *
    unfold wrap64
    omega
  have hm0 : ¬ ((m : Int) = 0) := by omega
  have hm1 : (0 : Int) < (m : Int) := by omega
  clear h hD hn hn2
  go_enter Tryd.func45, Tryd.ntmps45
  go_wp2_with fail
  go_quiet ((go_at_call 28; exact CR _))
  go_wp2_with fail
  go_ret
  exact ⟨congrArg (fun z => Ending.returned (Value.int .i64 z)) h4.out, _, rfl⟩

/-- The number at the end of the i-th sector from the head's place on. -/
def nmb (n : Nat) (h : Hd) (i : Nat) : Nat := h.tn * (n - 2) + (i - h.su)
theorem number_any (h : Lk w lb db rv L) (hD : Dk base w db sb n vw S Q dn lf) (i : Nat) (hs : L.h.su ≤ i) (hi : i ≤ 131072) (ht : nmb n L.h i < 18446744073709551616) : Calls Tryd.prog 47 #[.pointer (some ⟨lb, 0, none⟩), .int .i64 (i : Int)] w (Draws w (.int .u64 (nmb n L.h i : Int))) := by
  obtain ⟨c0, c1, c2, c3, c4, -⟩ := h.cells
  have CR := ringN h hD
  have hn2 := hD.few.2.1
  obtain ⟨m, hm⟩ : ∃ m, m = n - 2 := ⟨_, rfl⟩
  have hmn : m ≤ 65536 := by omega
  obtain ⟨j, rfl⟩ : ∃ j, i = L.h.su + j := ⟨i - L.h.su, by omega⟩
  have hnb : nmb n L.h (L.h.su + j) = L.h.tn * m + j := by unfold nmb; rw [← hm]; congr 1; omega
  rw [hnb] at ht ⊢
  rw [← hm] at CR
  have h1 : IntKind.u64.wrap (m : Int) = (m : Int) := by rw [wrap_u64]; omega
  have h2 : IntKind.u64.wrap ((L.h.tn : Int) * (m : Int)) = ((L.h.tn * m : Nat) : Int) := by
    rw [wrap_u64, ← Int.natCast_mul]; omega
  have h3 : IntKind.i64.wrap (((L.h.su + j : Nat) : Int) - (L.h.su : Int)) = (j : Int) := by rw [IntKind.wrap_i64]; omega
  have h4 : IntKind.u64.wrap (j : Int) = (j : Int) := by rw [wrap_u64]; omega
  have h5 : IntKind.u64.wrap (((L.h.tn * m : Nat) : Int) + (j : Int)) = ((L.h.tn * m + j : Nat) : Int) := by rw [wrap_u64]; omega
  have h6 : Hid (IntKind.u64.wrap ((L.h.tn : Int) * (m : Int) + IntKind.u64.wrap (wrap64 ((L.h.su : Int) + (j : Int) - (L.h.su : Int)))) = ((L.h.tn * m + j : Nat) : Int)) := by
    show _ = _
    have e1 : wrap64 ((L.h.su : Int) + (j : Int) - (L.h.su : Int)) = (j : Int) := by unfold wrap64; omega
    rw [e1, h4, ← Int.natCast_mul, h5]
  clear h hD hs hi hnb hn2 ht hm
  go_enter Tryd.func47, Tryd.ntmps47
  go_wp2_with fail
  go_quiet ((go_at_call 28; exact CR _))
  go_wp2_with fail
  go_ret
  exact ⟨congrArg (fun z => Ending.returned (Value.int .u64 z)) h6.out, _, rfl⟩

theorem new_ok (x : ByteArray) (w : World) : Calls Tryd.prog 40 #[.int .i64 0, .string x] w (fun e w' => e = .returned .nilIface ∧ w' = w) := by
  go_enter Tryd.func40, Tryd.ntmps40
  go_wp2_with fail
  go_ret
  exact ⟨rfl, rfl⟩

/-- What read gives. -/
def LReadA (s : List UInt8) (w : World) (e : Ending) (w' : World) : Prop := ∃ x, e = .returned (.tuple #[x, .nilIface]) ∧ w'.ownsRow w.heap.size 5 1 x s.length (s.map bv) ∧ Below w.heap.size w w'
theorem lread_ok (h : Lk w lb db rv L) (hD : Dk base w db sb n vw S Q false lf) (k : Nat) (s : List UInt8) (hk : S[k]? = some s) (hkn : k < n) : Calls Tryd.prog 53 #[.pointer (some ⟨lb, 0, none⟩), .int .i64 (k : Int)] w (LReadA s w) := by
  obtain ⟨c0, -⟩ := h.cells
  have CR := hid (read_any hD k s hk hkn)
  clear h hD hk
  go_enter Tryd.func53, Tryd.ntmps53
  go_wp2_with (first | (go_at_call 70; refine CR.out.mono ?_))
  rintro e w2 ⟨x, rfl, hx, hb⟩
  obtain ⟨xo, xc, rfl⟩ := own_form hx
  have HX := hid hx
  have HB := hid hb
  clear hx hb
  go_wp2_with (first | (go_at_call 40; refine (new_ok _ _).mono ?_; rintro e w3 ⟨rfl, rfl⟩))
  go_ret2
  exact ⟨_, rfl, HX.out, HB.out⟩

/-- A disk's and a log's blocks. -/
def DL (db sb : Nat) (vw : Value) (lb : Nat) : Nat → Prop := fun k => k = lb ∨ DX db sb vw k
/-- What a call leaves alone that writes to the disk and to the log's block. -/
structure Lfr (db sb : Nat) (vw vw' : Value) (lb : Nat) (w w' : World) : Prop where
  keep : Keep (DL db sb vw lb) w w'
  new : ∀ k, vw'.ownBlock = some k → vw.ownBlock = some k ∨ w.heap.size ≤ k
theorem Lfr.refl (db sb : Nat) (vw : Value) (lb : Nat) (w : World) : Lfr db sb vw vw lb w w := ⟨Keep.refl _ _, fun _ h => .inl h⟩
theorem Lfr.trans {db sb lb : Nat} {v v' v'' : Value} {a b c : World} (h : Lfr db sb v v' lb a b) (k : Lfr db sb v' v'' lb b c) : Lfr db sb v v'' lb a c :=
  ⟨h.keep.trans2 k.keep (fun i hi => by
    rcases hi with hi | hi | hi | hi
    · exact .inl (.inl hi)
    · exact .inl (.inr (.inl hi))
    · exact .inl (.inr (.inr (.inl hi)))
    · exact (h.new i hi).imp (fun h => .inr (.inr (.inr h))) id), fun i hi => by
    rcases k.new i hi with hi | hi
    · exact h.new i hi
    · exact .inr (Nat.le_trans h.keep.size hi)⟩
theorem Lfr.of_below {db sb lb : Nat} {v : Value} {a b : World} (h : Below a.heap.size a b) : Lfr db sb v v lb a b := ⟨Keep.of_below h, fun _ h => .inl h⟩
theorem Lfr.of_d {db sb lb : Nat} {v v' : Value} {a b : World} (h : Dfr db sb v v' a b) : Lfr db sb v v' lb a b := ⟨h.keep.mono (fun _ _ h => .inr h), h.new⟩
theorem Lfr.set (db sb : Nat) (v : Value) (lb : Nat) (w : World) (o : Nat) (x : Value) : Lfr db sb v v lb w (w.setCell ⟨lb, o, none⟩ x) := ⟨Keep.set w _ x (.inl rfl), fun _ h => .inl h⟩

set_option maxHeartbeats 1000000 in
theorem lwrite_ok (h : Lk w lb db rv L) (hD : Dk base w db sb n vw S Q false 0) (hlb : ¬ DX db sb vw lb) (x : Value) (l : List UInt8) (k : Nat) (s : List UInt8) (hk : S[k]? = some s) (hkn : k < n) (hx : Rd w x l) (hl : l.length = 64) (hq : Q.length ≤ 100000) :
    Calls Tryd.prog 44 #[.pointer (some ⟨lb, 0, none⟩), .int .i64 (k : Int), x] w (fun e w' => e = .returned .nilIface ∧ ∃ vw', Dk base w' db sb n vw' (S.set k l) (Q ++ [⟨k, s, l⟩]) false 0 ∧ Lk w' lb db rv { L with waits := Q.length + 1 } ∧ ¬ DX db sb vw' lb ∧ Lfr db sb vw vw' lb w w') := by
  obtain ⟨c0, -⟩ := h.cells
  have CW0 : (Calls Tryd.prog 63 #[.pointer (some ⟨db, 0, none⟩), .int .i64 (k : Int), x] w (fun e w' => e = .returned (.int .i64 0) ∧ ∃ vw', Dk base w' db sb n vw' (S.set k l) (Q ++ [⟨k, s, l⟩]) false 0 ∧ Dfr db sb vw vw' w w')) := write_gen hD (by omega) x l k s hk hkn hx hl hq
  obtain ⟨xo, xc, rfl, -⟩ := id hx
  rw [hl] at CW0 ⊢
  have CW := hid CW0
  have H := hid h
  have HN := hid hlb
  have HLT := hid h.lt
  clear h hD hk hlb hx hl CW0
  go_enter Tryd.func44, Tryd.ntmps44
  go_wp2_with (first | (go_at_call 63; refine CW.out.mono ?_))
  rintro e w2 ⟨rfl, vw2, hD2, hF2⟩
  have h2 := H.out.kept hF2.keep HN.out
  have hn2 : ¬ DX db sb vw2 lb := fun hj => by
    rcases hj with hj | hj | hj
    · exact HN.out (.inl hj)
    · exact HN.out (.inr (.inl hj))
    · rcases hF2.new _ hj with hj | hj
      · exact HN.out (.inr (.inr hj))
      · have := HLT.out; omega
  have CQ := hid (waiting_any hD2)
  obtain ⟨d0, -⟩ := h2.cells
  have hs8 := h2.soft 8
  have hc8 := h2.cells.2.2.2.2.2.2.2.2.1
  have HD2 := hid hD2
  have HF2 := hid hF2
  have HN2 := hid hn2
  have H2 := hid h2
  rw [List.length_append, List.length_singleton] at CQ
  clear hD2 hF2 hn2 h2 c0
  go_wp2_with (first
    | (go_at_call 22; refine CQ.out.mono ?_; rintro e w3 ⟨rfl, rfl⟩)
    | (go_at_call 40; refine (new_ok _ _).mono ?_; rintro e w4 ⟨rfl, rfl⟩))
  go_ret
  refine ⟨rfl, vw2, HD2.out.kept (Keep.set (X := fun k => k = lb) _ ⟨lb, 8, none⟩ _ rfl) (fun k hk e => HN2.out (by rw [← e]; exact hk)), ?_, HN2.out, (Lfr.of_d HF2.out).trans (Lfr.set _ _ _ _ _ 8 _)⟩
  have := H2.out.setWaits (Q.length + 1)
  exact this

theorem lflush_ok (h : Lk w lb db rv L) (hD : Dk base w db sb n vw S Q false 0) (hlb : ¬ DX db sb vw lb) :
    Calls Tryd.prog 48 #[.pointer (some ⟨lb, 0, none⟩)] w (fun e w' => e = .returned .nilIface ∧ ∃ vw', Dk base w' db sb n vw' S [] false 0 ∧ Lk w' lb db rv { L with waits := 0 } ∧ ¬ DX db sb vw' lb ∧ Lfr db sb vw vw' lb w w') := by
  obtain ⟨c0, -⟩ := h.cells
  have CW : Hid (Calls Tryd.prog 64 #[.pointer (some ⟨db, 0, none⟩)] w (fun e w' => e = .returned (.int .i64 0) ∧ ∃ vw', Dk base w' db sb n vw' S [] false 0 ∧ Dfr db sb vw vw' w w')) := flush_gen hD (by omega)
  have H := hid h
  have HN := hid hlb
  have HLT := hid h.lt
  clear h hD hlb
  go_enter Tryd.func48, Tryd.ntmps48
  go_wp2_with (first | (go_at_call 64; refine CW.out.mono ?_))
  rintro e w2 ⟨rfl, vw2, hD2, hF2⟩
  have h2 := H.out.kept hF2.keep HN.out
  have hn2 : ¬ DX db sb vw2 lb := fun hj => by
    rcases hj with hj | hj | hj
    · exact HN.out (.inl hj)
    · exact HN.out (.inr (.inl hj))
    · rcases hF2.new _ hj with hj | hj
      · exact HN.out (.inr (.inr hj))
      · have := HLT.out; omega
  have CQ : Hid (Calls Tryd.prog 22 #[.pointer (some ⟨db, 0, none⟩)] w2 (fun e w' => e = .returned (.int .i64 0) ∧ w' = w2)) := waiting_any hD2
  obtain ⟨d0, -⟩ := h2.cells
  have hs8 := h2.soft 8
  have hc8 := h2.cells.2.2.2.2.2.2.2.2.1
  have HD2 := hid hD2
  have HF2 := hid hF2
  have HN2 := hid hn2
  have H2 := hid h2
  clear hD2 hF2 hn2 h2 c0
  go_wp2_with (first
    | (go_at_call 22; refine CQ.out.mono ?_; rintro e w3 ⟨rfl, rfl⟩)
    | (go_at_call 40; refine (new_ok _ _).mono ?_; rintro e w4 ⟨rfl, rfl⟩))
  go_ret
  refine ⟨rfl, vw2, HD2.out.kept (Keep.set (X := fun k => k = lb) _ ⟨lb, 8, none⟩ _ rfl) (fun k hk e => HN2.out (by rw [← e]; exact hk)), ?_, HN2.out, (Lfr.of_d HF2.out).trans (Lfr.set _ _ _ _ _ 8 _)⟩
  have := H2.out.setWaits 0
  exact this
end
end Go.Proofs.YtcbbklbjfknnlaaDoor
