/-
  PAGES: the laws' helpers Spoil and Same.
-/
import Derived.LoopN
import Derived.Test.YtcgnghkjkdkmmaaGcp
set_option linter.unusedVariables false
namespace Go.Proofs.Ytcgnghkjkdkmmaa
open Go.RowKit Go.Shelf

/-- What Spoil does: it turns the bytes' row alone. -/
def Spoilt (w : World) (row : Option Nat) (en : Ending) (w' : World) : Prop := en = .returned (.tuple #[]) ∧ w.grownBy w' row

set_option maxHeartbeats 1000000 in
set_option maxRecDepth 100000 in
theorem spoil_any (w : World) (base g cap : Nat) (l : List UInt8) (ho : w.ownsRow base 5 1 (.slice (some ⟨g, 0, none⟩) l.length cap) l.length (l.map bv)) (hl : l.length ≤ 140737488355328) :
    Calls Try.prog 22 #[.slice (some ⟨g, 0, none⟩) l.length cap] w (Spoilt w (some g)) := by
  go_enter Try.func22, Try.ntmps22
  go_wp2_with fail
  go_loopw [2] (fun i wr => ∃ (k : Nat) (ys : List Value), k ≤ l.length ∧ i = .int .i64 (k : Int) ∧ wr.ownsRow base 5 1 (.slice (some ⟨g, 0, none⟩) l.length cap) l.length ys ∧ ys.drop k = (l.map bv).drop k ∧ w.grownBy wr (some g))
    (fun i _ => l.length - (intOf i).toNat)
  case atStart => exact ⟨0, _, by omega, rfl, ho, rfl, World.grownBy.refl _ _⟩
  case round =>
    obtain ⟨k, ys, hk, rfl, hown, hd, hg⟩ := hrel
    clear ho
    by_cases hlt : k < l.length
    · have hyk : ys[k]? = some (bv l[k]) := by
        have h1 : (ys.drop k)[0]? = ((l.map bv).drop k)[0]? := by rw [hd]
        simpa [List.getElem?_eq_getElem hlt] using h1
      have hc1 : wr.cell? ⟨g, k, none⟩ = some (.int .u8 ((l[k]).toNat : Int)) := by
        rw [hown.cellAt k (by omega), hyk]; rfl
      have hf1 := hown.frozenAt k
      have hst := fun u => hid (hown.stored k u)
      have hd2 : ∀ u, Hid ((ys.set k u).drop (k + 1) = (l.map bv).drop (k + 1)) := fun u => by
        have h2 : (ys.drop k).drop 1 = ((l.map bv).drop k).drop 1 := by rw [hd]
        rw [List.drop_drop, List.drop_drop] at h2
        show (ys.set k u).drop (k + 1) = _
        rw [List.drop_set_of_lt (by omega), h2]
      have hg' := hid hg
      generalize (l[k]).toNat = q at *
      clear hown hd hyk hg
      go_wp2_with fail
      go_roundw
      case rel => exact ⟨k + 1, _, by omega, by go_num, (hst _).out.1, (hd2 _).out, grown_trans hg'.out (hst _).out.2⟩
      case measure => simp [intOf]; omega
    · have hg' := hid hg
      clear hown hd hg
      go_wp2_with fail
      go_end0
      exact ⟨rfl, hg'.out⟩

set_option maxHeartbeats 1000000 in
set_option maxRecDepth 100000 in
theorem spoil_nil (w : World) : Calls Try.prog 22 #[.slice none 0 0] w (Spoilt w none) := by
  go_enter Try.func22, Try.ntmps22
  go_wp2_with fail
  refine wp_loop_rounds 1 ?_
  rw [rounds_succ]
  go_wp2_with fail
  go_end0
  exact ⟨rfl, World.grownBy.refl _ _⟩

theorem spoil_own (w : World) (base : Nat) (v : Value) (l : List UInt8) (ho : w.ownsRow base 5 1 v l.length (l.map bv)) (hl : l.length ≤ 140737488355328) :
    Calls Try.prog 22 #[v] w (Spoilt w v.ownBlock) := by
  rcases ho.2 with ⟨rfl, _⟩ | ⟨g, cap, cur, rfl, _⟩
  · exact spoil_nil w
  · exact spoil_any w base g cap l ho hl
end Go.Proofs.Ytcgnghkjkdkmmaa
