/-
  WAL: where nothing is wrong: told, fell, ready; a piece.
-/
import Derived.Test.YtcbbklbjfknnlaaDoorWo
set_option linter.unusedVariables false
set_option maxRecDepth 100000
namespace Go.Proofs.YtcbbklbjfknnlaaDoor
open Go.RowKit

theorem eql_nil (m : Int) (W : World) : (binOp .eql 60 .nilIface (.iface 25 (.int .i64 m))).run Tryd.prog W = .ok (.bool false) W := by kernel_rfl
theorem eis_nil (m : Int) (w : World) : Calls Tryd.prog 34 #[.nilIface, .iface 25 (.int .i64 m)] w (fun e w' => e = .returned (.bool false) ∧ w' = w) := by
  have he := eql_nil m
  go_enter Tryd.func34, Tryd.ntmps34
  go_wp2_with fail
  go_ret
  exact ⟨rfl, rfl⟩
theorem code_nil (w : World) : Calls Tryd.prog 36 #[.nilIface] w (fun e w' => e = .returned (.int .i64 0) ∧ w' = w) := by
  go_enter Tryd.func36, Tryd.ntmps36
  go_wp2_with fail
  go_ret
  exact ⟨rfl, rfl⟩
theorem told_ok (lb : Nat) (w : World) : Calls Tryd.prog 23 #[.pointer (some ⟨lb, 0, none⟩), .nilIface] w (fun e w' => e = .returned (.int .i64 0) ∧ w' = w) := by
  go_enter Tryd.func23, Tryd.ntmps23
  go_wp2_with (first
    | (go_at_call 34; refine (eis_nil 3 _).mono ?_; rintro e w2 ⟨rfl, rfl⟩)
    | (go_at_call 36; refine (code_nil _).mono ?_; rintro e w3 ⟨rfl, rfl⟩))
  go_ret
  exact ⟨rfl, rfl⟩

section
variable {base : Nat} {w : World} {lb db sb n : Nat} {vw rv : Value} {S : List (List UInt8)} {Q : List Wr} {dn : Bool} {lf : Nat} {L : Ls}

theorem fell_no (h : Lk w lb db rv L) (hD : Dk base w db sb n vw S Q false lf) (hq : L.waits = Q.length) : Calls Tryd.prog 39 #[.pointer (some ⟨lb, 0, none⟩)] w (Draws w (.bool false)) := by
  have c0 := h.cells.1
  have c8 := h.cells.2.2.2.2.2.2.2.2.1
  rw [hq] at c8
  have CW : ∀ a, Calls Tryd.prog 22 #[.pointer (some ⟨db, 0, none⟩)] (w.drewN a) (fun e w' => e = .returned (.int .i64 (Q.length : Int)) ∧ ∃ m, w' = w.drewN m) := fun a => (waiting_any (hD.old (w' := w.drewN a) ⟨rfl, rfl, rfl, Nat.le_refl _, fun _ _ => rfl⟩)).mono fun _ _ h => ⟨h.1, a, h.2⟩
  clear h hD
  go_enter Tryd.func39, Tryd.ntmps39
  go_wp2_with fail
  go_quiet ((go_at_call 22; exact CW _))
  go_wp2_with fail
  go_ret
  exact ⟨rfl, _, rfl⟩

theorem ready_ok (h : Lk w lb db rv L) (hD : Dk base w db sb n vw S Q false lf) (hq : L.waits = Q.length) (hd : L.down = false) : Calls Tryd.prog 26 #[.pointer (some ⟨lb, 0, none⟩)] w (Draws w .nilIface) := by
  have c0 := h.cells.1
  have c9 := h.cells.2.2.2.2.2.2.2.2.2
  rw [hd] at c9
  have CF := hid (fell_no h hD hq)
  have CD := hid (down_any hD)
  clear h hD hq
  go_enter Tryd.func26, Tryd.ntmps26
  go_wp2_with (first
    | (go_at_call 21; refine CD.out.mono ?_; rintro e w2 ⟨rfl, rfl⟩)
    | (go_at_call 39; refine CF.out.mono ?_; rintro e w3 ⟨rfl, m3, rfl⟩))
  go_ret
  exact ⟨rfl, m3, rfl⟩

/-- The body of the i-th sector from the head's place on, if it is the log's. -/
def pieceM (S : List (List UInt8)) (n : Nat) (h : Hd) (i : Nat) : Option (List UInt8) :=
  if n - 2 ≤ i ∨ h.tn = 0 then none else if h.su ≤ i ∧ sealN (S.getD (plc n h i) []) ≠ nmb n h i then none else some ((S.getD (plc n h i) []).take 56)

/-- What piece gives. -/
def PieceA (p : Option (List UInt8)) (w : World) (e : Ending) (w' : World) : Prop :=
  Below w.heap.size w w' ∧ ((p = none ∧ e = .returned (.tuple #[.slice none 0 0, .nilIface])) ∨ ∃ b g c, p = some b ∧ b.length = 56 ∧ e = .returned (.tuple #[.slice (some ⟨g, 0, none⟩) 56 c, .nilIface]) ∧ w'.ownsRow w.heap.size 5 1 (.slice (some ⟨g, 0, none⟩) 56 c) 56 (b.map bv))

theorem own_take {w : World} {base : Nat} {e : TypeId} {g n c : Nat} {xs : List Value} (h : w.ownsRow base e 1 (.slice (some ⟨g, 0, none⟩) n c) n xs) (m : Nat) (hm : m ≤ n) : w.ownsRow base e 1 (.slice (some ⟨g, 0, none⟩) m c) m (xs.take m) := by
  obtain ⟨h1, h2⟩ := h
  rcases h2 with ⟨h2, _⟩ | ⟨g', cap, cur, hv, hb, hg, hc, hm2, hs, ht⟩
  · cases h2
  · simp only [Value.slice.injEq, Option.some.injEq, Addr.mk.injEq, and_true, true_and] at hv
    obtain ⟨rfl, rfl⟩ := hv
    refine ⟨by rw [List.length_take]; omega, .inr ⟨g, c, cur, rfl, hb, hg, by omega, hm2, hs, ?_⟩⟩
    rw [← ht, List.take_take]
    congr 1
    omega

set_option maxHeartbeats 4000000 in
theorem piece_any (h : Lk w lb db rv L) (hD : Dk base w db sb n vw S Q false lf) (hk : L.h.Ok) (i : Nat) (hi : i ≤ 131072) (hn : 3 ≤ n) (ht : ∀ j, j ≤ 131072 → nmb n L.h j < 18446744073709551616) :
    Calls Tryd.prog 55 #[.pointer (some ⟨lb, 0, none⟩), .int .i64 (i : Int)] w (PieceA (pieceM S n L.h i) w) := by
  obtain ⟨c0, c1, c2, c3, c4, -⟩ := h.cells
  have CR := hid (ring_any h hD)
  by_cases h0 : n - 2 ≤ i ∨ L.h.tn = 0
  · have HE : Hid (pieceM S n L.h i = none) := if_pos h0
    have hor : ((n - 2 : Nat) : Int) ≤ (i : Int) ∨ (¬ ((n - 2 : Nat) : Int) ≤ (i : Int) ∧ (L.h.tn : Int) = 0) := by omega
    generalize n - 2 = m at *
    clear h hD ht
    rcases hor with h1 | ⟨h1, h2⟩
    · clear h0
      go_enter Tryd.func55, Tryd.ntmps55
      go_wp2_with (first | (go_at_call 28; refine CR.out.mono ?_; rintro e w2 ⟨rfl, rfl⟩))
      go_ret2
      exact ⟨Below.refl _ _, .inl ⟨HE.out, rfl⟩⟩
    · have h3 : (i : Int) < (m : Int) := by omega
      clear h0
      go_enter Tryd.func55, Tryd.ntmps55
      go_wp2_with (first | (go_at_call 28; refine CR.out.mono ?_; rintro e w2 ⟨rfl, rfl⟩))
      go_ret2
      exact ⟨Below.refl _ _, .inl ⟨HE.out, rfl⟩⟩
  · have h1 : (i : Int) < ((n - 2 : Nat) : Int) := by omega
    have h2 : ¬ ((L.h.tn : Int) = 0) := by omega
    have hlt : plc n L.h i < n := by unfold plc; have := Nat.mod_lt (L.h.fr + i) (show 0 < n - 2 by omega); omega
    have hs := List.getElem?_eq_getElem (Nat.lt_of_lt_of_le hlt hD.few.1)
    have hsl := hD.len _ (List.mem_of_getElem? hs)
    have hgd : S.getD (plc n L.h i) [] = S[plc n L.h i]'(Nat.lt_of_lt_of_le hlt hD.few.1) := by rw [List.getD, hs]; rfl
    have CP := hid (place_any h hD i hn hk.fr hi)
    have HE : Hid (pieceM S n L.h i = if L.h.su ≤ i ∧ sealN (S[plc n L.h i]'(Nat.lt_of_lt_of_le hlt hD.few.1)) ≠ nmb n L.h i then none else some ((S[plc n L.h i]'(Nat.lt_of_lt_of_le hlt hD.few.1)).take 56)) := by
      show _ = _
      unfold pieceM
      rw [if_neg h0, hgd]
    generalize S[plc n L.h i]'_ = s at *
    have HS := hid hs
    have HSL := hid hsl
    have H := hid h
    have HD := hid hD
    have HT := hid ht
    have CRD : Hid (∀ m, Calls Tryd.prog 53 #[.pointer (some ⟨lb, 0, none⟩), .int .i64 (plc n L.h i : Int)] (w.drewN m) (LReadA s (w.drewN m))) := fun m => lread_ok (h.old (w' := w.drewN m) ⟨rfl, rfl, rfl, Nat.le_refl _, fun _ _ => rfl⟩) (hD.old (w' := w.drewN m) ⟨rfl, rfl, rfl, Nat.le_refl _, fun _ _ => rfl⟩) _ s hs hlt
    clear h0 hs hsl hgd h hD ht
    generalize hpp : plc n L.h i = pp at *
    clear hpp
    obtain ⟨mm, hmm⟩ : ∃ mm, mm = n - 2 := ⟨_, rfl⟩
    rw [← hmm] at CR h1
    have h1' : ¬ (mm ≤ i) := by omega
    have h1'' : decide (mm ≤ i) = false := decide_eq_false h1'
    have h2' : ((L.h.tn : Int) == 0) = false := by simpa using h2
    clear hmm h2
    go_enter Tryd.func55, Tryd.ntmps55
    go_wp2_with (first
      | (go_at_call 28; refine CR.out.mono ?_; rintro e w2 ⟨rfl, rfl⟩)
      | (go_at_call 45; refine CP.out.mono ?_; rintro e w3 ⟨rfl, m3, rfl⟩)
      | (go_at_call 53; refine (CRD.out m3).mono ?_))
    rintro e w4 ⟨x, rfl, hx, hb4⟩
    rw [HSL.out] at hx
    obtain ⟨gx, xc, rfl, hc64⟩ : ∃ g c, x = .slice (some ⟨g, 0, none⟩) 64 c ∧ 64 ≤ c := by
      rcases hx.2 with ⟨_, h0⟩ | ⟨g, cap, cur, hv, _, _, h1, _⟩
      · cases h0
      · exact ⟨g, cap, hv, h1⟩
    have hc56 : 56 ≤ xc := by omega
    have hb24 : Below w2.heap.size w2 w4 := below_on2 (⟨rfl, rfl, rfl, Nat.le_refl _, fun _ _ => rfl⟩ : Below w2.heap.size w2 (w2.drewN m3)) hb4
    have hx2 : w4.ownsRow w2.heap.size 5 1 (.slice (some ⟨gx, 0, none⟩) 64 xc) 64 (s.map bv) := hx
    have HX := hid hx2
    have HB := hid hb24
    obtain ⟨d0, d1, d2, d3, d4, -⟩ := (H.out.old hb24).cells
    have hr4 : Rd w4 (.slice (some ⟨gx, 0, none⟩) 64 xc) s := by
      have := Rd.own (l := s) (by rw [HSL.out]; exact hx2)
      exact this
    have HR4 := hid hr4
    clear hx hx2 hb4 hb24 hr4 c0 c1 c2 c3 c4
    have HOK : ∀ a : Nat, Hid (PieceA (some (s.take 56)) w2 (.returned (.tuple #[.slice (some ⟨gx, 0, none⟩) 56 xc, .nilIface])) (w4.drewN a)) := fun a => by
      refine ⟨below_on2 HB.out ⟨rfl, rfl, rfl, Nat.le_refl _, fun _ _ => rfl⟩, .inr ⟨_, gx, xc, rfl, by rw [List.length_take, HSL.out]; rfl, rfl, ?_⟩⟩
      have := own_take HX.out 56 (by decide)
      rw [← List.map_take] at this
      exact own_old this ⟨rfl, rfl, rfl, Nat.le_refl _, fun _ _ => rfl⟩
    have HNO : ∀ a : Nat, Hid (PieceA none w2 (.returned (.tuple #[.slice none 0 0, .nilIface])) (w4.drewN a)) := fun a => ⟨below_on2 HB.out ⟨rfl, rfl, rfl, Nat.le_refl _, fun _ _ => rfl⟩, .inl ⟨rfl, rfl⟩⟩
    by_cases hsu : L.h.su ≤ i
    · have hsI : (L.h.su : Int) ≤ (i : Int) := by omega
      have hsd : decide (L.h.su ≤ i) = true := decide_eq_true hsu
      have CSL := hid (seal_any w4 _ s HR4.out HSL.out)
      have CN := hid (number_any (H.out.old HB.out) (HD.out.old HB.out) i hsu hi (HT.out i hi))
      by_cases heq : sealN s = nmb n L.h i
      · have HE2 : Hid (pieceM S n L.h i = some (s.take 56)) := by
          show _ = _
          rw [HE.out, if_neg (by rintro ⟨_, h⟩; exact h heq)]
        have CSL2 : Hid (Calls Tryd.prog 71 #[.slice (some ⟨gx, 0, none⟩) 64 xc] w4 (fun e w' => e = .returned (.int .u64 (nmb n L.h i : Int)) ∧ w' = w4)) := by rw [← heq]; exact CSL
        generalize nmb n L.h i = nm at *
        clear heq CSL
        go_wp2_with (first
          | (go_at_call 71; refine CSL2.out.mono ?_; rintro e w5 ⟨rfl, rfl⟩)
          | (go_at_call 47; refine CN.out.mono ?_; rintro e w6 ⟨rfl, m6, rfl⟩))
        go_ret2
        rw [HE2.out]
        exact (HOK m6).out
      · have HE2 : Hid (pieceM S n L.h i = none) := by
          show _ = _
          rw [HE.out, if_pos ⟨hsu, heq⟩]
        have heI : (((sealN s : Nat) : Int) == ((nmb n L.h i : Nat) : Int)) = false := by simp; omega
        generalize nmb n L.h i = nm at *
        generalize sealN s = sn at *
        clear heq
        go_wp2_with (first
          | (go_at_call 71; refine CSL.out.mono ?_; rintro e w5 ⟨rfl, rfl⟩)
          | (go_at_call 47; refine CN.out.mono ?_; rintro e w6 ⟨rfl, m6, rfl⟩))
        go_ret2
        rw [HE2.out]
        exact (HNO m6).out
    · have hsI : (i : Int) < (L.h.su : Int) := by omega
      have hsd : decide (L.h.su ≤ i) = false := decide_eq_false hsu
      have HE2 : Hid (pieceM S n L.h i = some (s.take 56)) := by
        show _ = _
        rw [HE.out, if_neg (by rintro ⟨h, _⟩; exact hsu h)]
      go_wp2_with fail
      go_ret2
      rw [HE2.out]
      exact (HOK 0).out
end
end Go.Proofs.YtcbbklbjfknnlaaDoor
