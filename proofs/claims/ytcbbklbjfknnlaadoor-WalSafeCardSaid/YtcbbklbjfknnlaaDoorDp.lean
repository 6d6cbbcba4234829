/-
  DISK: its small functions whatever is armed; what a call leaves alone.
-/
import Derived.Test.YtcbbklbjfknnlaaDoorDs
import Derived.Test.YtcbbklbjfknnlaaDoorKeep
set_option linter.unusedVariables false
set_option maxRecDepth 100000
namespace Go.Proofs.YtcbbklbjfknnlaaDoor
open Go.RowKit

/-- A disk's blocks. -/
def DX (db sb : Nat) (vw : Value) : Nat → Prop := fun k => k = db ∨ k = sb ∨ vw.ownBlock = some k
/-- What a disk's call leaves alone: all but the disk's blocks; the row of writes lies where it lay, or in a new block. -/
structure Dfr (db sb : Nat) (vw vw' : Value) (w w' : World) : Prop where
  keep : Keep (DX db sb vw) w w'
  new : ∀ k, vw'.ownBlock = some k → vw.ownBlock = some k ∨ w.heap.size ≤ k
theorem Dfr.refl (db sb : Nat) (vw : Value) (w : World) : Dfr db sb vw vw w w := ⟨Keep.refl _ _, fun _ h => .inl h⟩
theorem Dfr.trans {db sb : Nat} {v v' v'' : Value} {a b c : World} (h : Dfr db sb v v' a b) (k : Dfr db sb v' v'' b c) : Dfr db sb v v'' a c :=
  ⟨h.keep.trans2 k.keep (fun i hi => by
    rcases hi with hi | hi | hi
    · exact .inl (.inl hi)
    · exact .inl (.inr (.inl hi))
    · exact (h.new i hi).imp (fun h => .inr (.inr h)) id), fun i hi => by
    rcases k.new i hi with hi | hi
    · exact h.new i hi
    · exact .inr (Nat.le_trans h.keep.size hi)⟩
theorem Dfr.of_below {db sb : Nat} {v : Value} {a b : World} (h : Below a.heap.size a b) : Dfr db sb v v a b := ⟨Keep.of_below h, fun _ h => .inl h⟩
theorem Dfr.set (db sb : Nat) (v : Value) (w : World) (o : Nat) (x : Value) : Dfr db sb v v w (w.setCell ⟨db, o, none⟩ x) := ⟨Keep.set w _ x (.inl rfl), fun _ h => .inl h⟩
theorem Dfr.nil {db sb : Nat} {v v' : Value} {a b : World} (h : Dfr db sb v v' a b) : Dfr db sb v (.slice none 0 0) a b := ⟨h.keep, fun k hk => by cases hk⟩

theorem Dk.below {base : Nat} {w w' : World} {db sb n : Nat} {vw vw' : Value} {S : List (List UInt8)} {Q : List Wr} {dn : Bool} {lf : Nat} (h : Dk base w db sb n vw S Q dn lf) (hf : Dfr db sb vw vw' w w') : Below base w w' :=
  hf.keep.below (Nat.le_trans h.lo.1 (Nat.le_of_lt (lt_of_block h.hd))) (fun k hk => by
    rcases hk with rfl | rfl | hk
    · exact h.lo.1
    · exact h.lo.2
    · exact (h.wa.lt k hk).1)
/-- A disk behind what leaves its blocks alone. -/
theorem Dk.kept {X : Nat → Prop} {base : Nat} {w w' : World} {db sb n : Nat} {vw : Value} {S : List (List UInt8)} {Q : List Wr} {dn : Bool} {lf : Nat} (h : Dk base w db sb n vw S Q dn lf) (hk : Keep X w w') (hx : ∀ k, DX db sb vw k → ¬ X k) : Dk base w' db sb n vw S Q dn lf :=
  ⟨h.lo, (hk.block _ (lt_of_block h.hd) (hx _ (.inl rfl))).trans h.hd, (hk.block _ (lt_of_block h.sh) (hx _ (.inr (.inl rfl)))).trans h.sh, own_keep h.wa hk (fun k e => hx k (.inr (.inr e))), h.len, h.ok, h.few⟩
theorem Dk.lt {base : Nat} {w : World} {db sb n : Nat} {vw : Value} {S : List (List UInt8)} {Q : List Wr} {dn : Bool} {lf : Nat} (h : Dk base w db sb n vw S Q dn lf) : ∀ k, DX db sb vw k → base ≤ k ∧ k < w.heap.size := fun k hk => by
  rcases hk with rfl | rfl | hk
  · exact ⟨h.lo.1, lt_of_block h.hd⟩
  · exact ⟨h.lo.2, lt_of_block h.sh⟩
  · exact h.wa.lt k hk

def hitE (lf : Nat) : Int := if lf = 1 then 3 else 0
def hitD (lf : Nat) : Bool := decide (lf = 1)

section
variable {base : Nat} {w : World} {db sb n : Nat} {vw : Value} {S : List (List UInt8)} {Q : List Wr} {dn : Bool} {lf : Nat}

theorem Dk.set2 (h : Dk base w db sb n vw S Q dn lf) (b : Bool) : Dk base (w.setCell ⟨db, 2, none⟩ (.bool b)) db sb n vw S Q b lf := by
  have h1 := set_at (k := 2) (.bool b) h.hd
  exact ⟨h.lo, h1, (Below.heap_setCell _ ⟨db, 2, none⟩ _ sb (fun e => h.apart.1 e.symm)).trans h.sh, h.wa.kept (grown_set w ⟨db, 2, none⟩ (.bool b)) (.inr h.apart.2.1), h.len, h.ok, h.few⟩
theorem Dk.set3 (h : Dk base w db sb n vw S Q dn lf) (m : Nat) : Dk base (w.setCell ⟨db, 3, none⟩ (.int .i64 (m : Int))) db sb n vw S Q dn m := by
  have h1 := set_at (k := 3) (.int .i64 (m : Int)) h.hd
  exact ⟨h.lo, h1, (Below.heap_setCell _ ⟨db, 3, none⟩ _ sb (fun e => h.apart.1 e.symm)).trans h.sh, h.wa.kept (grown_set w ⟨db, 3, none⟩ (.int .i64 (m : Int))) (.inr h.apart.2.1), h.len, h.ok, h.few⟩
theorem Dk.set1 (h : Dk base w db sb n vw S Q dn lf) : Dk base (w.setCell ⟨db, 1, none⟩ (.slice none 0 0)) db sb n (.slice none 0 0) S [] dn lf :=
  ⟨h.lo, set_at _ h.hd, (Below.heap_setCell _ ⟨db, 1, none⟩ _ sb (by exact fun e => h.apart.1 e.symm)).trans h.sh, World.ownsRow_nil _ _ _ _, h.len, (fun x hx => by cases hx), h.few⟩

set_option maxHeartbeats 2000000 in
theorem counted_gen (h : Dk base w db sb n vw S Q false lf) (hlf : lf ≤ 9223372036854775807) : Calls Tryd.prog 74 #[.pointer (some ⟨db, 0, none⟩)] w (fun e w' => e = .returned (.int .i64 (hitE lf)) ∧ Dk base w' db sb n vw S Q (hitD lf) (lf - 1) ∧ Dfr db sb vw vw w w') := by
  obtain ⟨c0, c1, c2, c3, f0, f1, f2, f3⟩ := four_cells h.hd
  by_cases h0 : lf = 0
  · subst h0
    refine (counted0 h).mono ?_
    rintro e w' ⟨rfl, rfl⟩
    exact ⟨rfl, h, Dfr.refl _ _ _ _⟩
  · obtain ⟨m, rfl⟩ : ∃ m, lf = m + 1 := ⟨lf - 1, by omega⟩
    have hz : ¬ (((m + 1 : Nat) : Int) = 0) := by omega
    have hw : IntKind.i64.wrap (((m + 1 : Nat) : Int) - 1) = (m : Int) := by rw [IntKind.wrap_i64]; omega
    have h3 := h.set3 m
    obtain ⟨d0, d1, d2, d3, k0, k1, k2, k3⟩ := four_cells h3.hd
    by_cases hm : m = 0
    · subst hm
      have h4 := h3.set2 true
      have CA : Hid (Calls Tryd.prog 35 #[.pointer (some ⟨db, 0, none⟩)] ((w.setCell ⟨db, 3, none⟩ (.int .i64 ((0 : Nat) : Int))).setCell ⟨db, 2, none⟩ (.bool true)) (fun e w' => e = .returned (.int .i64 3) ∧ w' = ((w.setCell ⟨db, 3, none⟩ (.int .i64 ((0 : Nat) : Int))).setCell ⟨db, 2, none⟩ (.bool true)))) := able_any h4
      have H4 := hid h4
      have F4 : Hid (Dfr db sb vw vw w ((w.setCell ⟨db, 3, none⟩ (.int .i64 ((0 : Nat) : Int))).setCell ⟨db, 2, none⟩ (.bool true))) := (Dfr.set db sb vw w 3 _).trans (Dfr.set db sb vw _ 2 _)
      clear h h3 h4
      go_enter Tryd.func74, Tryd.ntmps74
      go_wp2_with (first | (go_at_call 35; refine CA.out.mono ?_; rintro e w2 ⟨rfl, rfl⟩))
      go_ret
      exact ⟨rfl, H4.out, F4.out⟩
    · have hm0 : ((m : Int) == 0) = false := by simp; exact hm
      have h4 := h3.set2 false
      have CA : Hid (Calls Tryd.prog 35 #[.pointer (some ⟨db, 0, none⟩)] ((w.setCell ⟨db, 3, none⟩ (.int .i64 (m : Int))).setCell ⟨db, 2, none⟩ (.bool false)) (fun e w' => e = .returned (.int .i64 0) ∧ w' = ((w.setCell ⟨db, 3, none⟩ (.int .i64 (m : Int))).setCell ⟨db, 2, none⟩ (.bool false)))) := able_any h4
      have H4 := hid h4
      have F4 : Hid (Dfr db sb vw vw w ((w.setCell ⟨db, 3, none⟩ (.int .i64 (m : Int))).setCell ⟨db, 2, none⟩ (.bool false))) := (Dfr.set db sb vw w 3 _).trans (Dfr.set db sb vw _ 2 _)
      have HE : Hid (hitE (m + 1) = 0 ∧ hitD (m + 1) = false) := ⟨if_neg (by omega), decide_eq_false (by omega)⟩
      clear h h3 h4
      go_enter Tryd.func74, Tryd.ntmps74
      go_wp2_with (first | (go_at_call 35; refine CA.out.mono ?_; rintro e w2 ⟨rfl, rfl⟩))
      go_ret
      rw [HE.out.1, HE.out.2]
      exact ⟨rfl, H4.out, F4.out⟩

theorem flush_gen (h : Dk base w db sb n vw S Q false lf) (hlf : lf ≤ 9223372036854775807) : Calls Tryd.prog 64 #[.pointer (some ⟨db, 0, none⟩)] w (fun e w' => e = .returned (.int .i64 (hitE lf)) ∧ ∃ vw', Dk base w' db sb n vw' S (if lf = 1 then Q else []) (hitD lf) (lf - 1) ∧ Dfr db sb vw vw' w w') := by
  have CA : Hid (Calls Tryd.prog 35 #[.pointer (some ⟨db, 0, none⟩)] w (fun e w' => e = .returned (.int .i64 0) ∧ w' = w)) := able_any h
  have CC := counted_gen h hlf
  by_cases h1 : lf = 1
  · subst h1
    have CC2 : Hid (Calls Tryd.prog 74 #[.pointer (some ⟨db, 0, none⟩)] w (fun e w' => e = .returned (.int .i64 3) ∧ Dk base w' db sb n vw S Q true 0 ∧ Dfr db sb vw vw w w')) := CC
    clear CC h
    go_enter Tryd.func64, Tryd.ntmps64
    go_wp2_with (first
      | (go_at_call 35; refine CA.out.mono ?_; rintro e w2 ⟨rfl, rfl⟩)
      | (go_at_call 74; refine CC2.out.mono ?_))
    rintro e w3 ⟨rfl, hD, hF⟩
    have HD := hid hD
    have HF := hid hF
    clear hD hF
    go_wp2_with fail
    go_ret
    exact ⟨rfl, vw, HD.out, HF.out⟩
  · have HE : hitE lf = 0 ∧ hitD lf = false := ⟨if_neg h1, decide_eq_false h1⟩
    rw [HE.1, HE.2] at CC ⊢
    rw [if_neg h1]
    have CC2 := hid CC
    clear CC h HE h1 hlf
    go_enter Tryd.func64, Tryd.ntmps64
    go_wp2_with (first
      | (go_at_call 35; refine CA.out.mono ?_; rintro e w2 ⟨rfl, rfl⟩)
      | (go_at_call 74; refine CC2.out.mono ?_))
    rintro e w3 ⟨rfl, hD, hF⟩
    have HD := hid hD
    have HF := hid hF
    obtain ⟨c0, c1, c2, c3, f0, f1, f2, f3⟩ := four_cells hD.hd
    clear hD hF
    go_wp2_with fail
    go_ret
    exact ⟨rfl, _, HD.out.set1, HF.out.trans (Dfr.set db sb vw _ 1 _).nil⟩

theorem flush_off (h : Dk base w db sb n vw S Q true lf) : Calls Tryd.prog 64 #[.pointer (some ⟨db, 0, none⟩)] w (fun e w' => e = .returned (.int .i64 3) ∧ w' = w) := by
  have CA : Hid (Calls Tryd.prog 35 #[.pointer (some ⟨db, 0, none⟩)] w (fun e w' => e = .returned (.int .i64 3) ∧ w' = w)) := able_any h
  clear h
  go_enter Tryd.func64, Tryd.ntmps64
  go_wp2_with (first
    | (go_at_call 35; refine CA.out.mono ?_; rintro e w2 ⟨rfl, rfl⟩))
  go_ret
  exact ⟨rfl, rfl⟩
theorem write_off (h : Dk base w db sb n vw S Q true lf) (z : Int) (x : Value) : Calls Tryd.prog 63 #[.pointer (some ⟨db, 0, none⟩), .int .i64 z, x] w (fun e w' => e = .returned (.int .i64 3) ∧ w' = w) := by
  have CA : Hid (Calls Tryd.prog 35 #[.pointer (some ⟨db, 0, none⟩)] w (fun e w' => e = .returned (.int .i64 3) ∧ w' = w)) := able_any h
  clear h
  go_enter Tryd.func63, Tryd.ntmps63
  go_wp2_with (first
    | (go_at_call 35; refine CA.out.mono ?_; rintro e w2 ⟨rfl, rfl⟩))
  go_ret
  exact ⟨rfl, rfl⟩
theorem read_off (h : Dk base w db sb n vw S Q true lf) (z : Int) : Calls Tryd.prog 70 #[.pointer (some ⟨db, 0, none⟩), .int .i64 z] w (fun e w' => e = .returned (.tuple #[.slice none 0 0, .int .i64 3]) ∧ w' = w) := by
  have CA : Hid (Calls Tryd.prog 35 #[.pointer (some ⟨db, 0, none⟩)] w (fun e w' => e = .returned (.int .i64 3) ∧ w' = w)) := able_any h
  clear h
  go_enter Tryd.func70, Tryd.ntmps70
  go_wp2_with (first
    | (go_at_call 35; refine CA.out.mono ?_; rintro e w2 ⟨rfl, rfl⟩))
  go_ret2
  exact ⟨rfl, rfl⟩
theorem read_none (h : Dk base w db sb n vw S Q false lf) (z : Int) (hz : ¬ (0 ≤ z ∧ z < (n : Int))) : Calls Tryd.prog 70 #[.pointer (some ⟨db, 0, none⟩), .int .i64 z] w (fun e w' => e = .returned (.tuple #[.slice none 0 0, .int .i64 1]) ∧ w' = w) := by
  have CA : Hid (Calls Tryd.prog 35 #[.pointer (some ⟨db, 0, none⟩)] w (fun e w' => e = .returned (.int .i64 0) ∧ w' = w)) := able_any h
  have CH : Hid (Calls Tryd.prog 73 #[.pointer (some ⟨db, 0, none⟩), .int .i64 z] w (fun e w' => e = .returned (.bool false) ∧ w' = w)) := by
    have := has_any h z
    rw [decide_eq_false hz] at this
    exact this
  clear h
  go_enter Tryd.func70, Tryd.ntmps70
  go_wp2_with (first
    | (go_at_call 35; refine CA.out.mono ?_; rintro e w2 ⟨rfl, rfl⟩)
    | (go_at_call 73; refine CH.out.mono ?_; rintro e w2 ⟨rfl, rfl⟩))
  go_ret2
  exact ⟨rfl, rfl⟩
theorem write_none (h : Dk base w db sb n vw S Q false lf) (z : Int) (ao : Option Addr) (m c : Nat) (hz : ¬ (0 ≤ z ∧ z < (n : Int)) ∨ m ≠ 64) : Calls Tryd.prog 63 #[.pointer (some ⟨db, 0, none⟩), .int .i64 z, .slice ao m c] w (fun e w' => e = .returned (.int .i64 1) ∧ w' = w) := by
  have CA : Hid (Calls Tryd.prog 35 #[.pointer (some ⟨db, 0, none⟩)] w (fun e w' => e = .returned (.int .i64 0) ∧ w' = w)) := able_any h
  have CH0 := has_any h z
  clear h
  by_cases h1 : 0 ≤ z ∧ z < (n : Int)
  · have h2 : ¬ ((m : Int) = 64) := by have := hz.resolve_left (fun h => h h1); omega
    rw [decide_eq_true h1] at CH0
    have CH := hid CH0
    clear CH0 hz h1
    go_enter Tryd.func63, Tryd.ntmps63
    go_wp2_with (first
      | (go_at_call 35; refine CA.out.mono ?_; rintro e w2 ⟨rfl, rfl⟩)
      | (go_at_call 73; refine CH.out.mono ?_; rintro e w2 ⟨rfl, rfl⟩))
    go_ret
    exact ⟨rfl, rfl⟩
  · rw [decide_eq_false h1] at CH0
    have CH := hid CH0
    clear CH0 hz h1
    go_enter Tryd.func63, Tryd.ntmps63
    go_wp2_with (first
      | (go_at_call 35; refine CA.out.mono ?_; rintro e w2 ⟨rfl, rfl⟩)
      | (go_at_call 73; refine CH.out.mono ?_; rintro e w2 ⟨rfl, rfl⟩))
    go_ret
    exact ⟨rfl, rfl⟩
end
end Go.Proofs.YtcbbklbjfknnlaaDoor
