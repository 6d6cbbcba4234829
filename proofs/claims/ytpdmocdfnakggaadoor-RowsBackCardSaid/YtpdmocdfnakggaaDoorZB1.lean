import Derived.Test.YtpdmocdfnakggaaDoorZR7
import Derived.Test.YtpdmocdfnakggaaDoorZR6
import Derived.Test.YtpdmocdfnakggaaDoorZR5
import Derived.Test.YtpdmocdfnakggaaDoorZR4
import Derived.Test.YtpdmocdfnakggaaDoorZR3
import Derived.Test.YtpdmocdfnakggaaDoorZR2
import Derived.Test.YtpdmocdfnakggaaDoorZR1
import Derived.Test.YtpdmocdfnakggaaDoorRows
import Derived.WalkKit
import Derived.WalkSpells
import Derived.WalkLawsBesides
import Derived.Laws.AppendOwnNone
import Derived.Test.YtpdmocdfnakggaaDoorProg
import Derived.LaidEql
import Derived.Stop.Asserts
import Derived.RowKitTokens
set_option linter.unusedVariables false
set_option linter.unusedSimpArgs false
namespace Go.Proofs.YtpdmocdfnakggaaDoor
open Go.RowKit

/-- 'x[n:]'. -/
theorem Rd.cut {P : Program} {w : World} {x : Value} {l : List UInt8} (h : Rd w x l) (t e : TypeId) (ht : P.underlying t = some (.slice e)) (hinfo : (P.info? e).map (fun i => (i.zero, i.size, i.bytes)) = some (some (.int .u8 0), 1, 1)) (n : Nat) (hn : n ≤ l.length) :
    ∃ (ao : Option Addr) (c : Nat), (∀ W, (Instr.slice t x (some (.int .i64 (n : Int))) none none).run P W = .ok (.slice ao (l.length - n) c) W) ∧ Rd w (.slice ao (l.length - n) c) (l.drop n) ∧ (∀ k, blk (.slice ao (l.length - n) c) = some k → blk x = some k) := by
  obtain ⟨i0, hi, hz0, hz1, hz2⟩ := info_parts hinfo
  obtain ⟨ao, c, rfl, h1, h2, h3, h4⟩ := h
  have ht' : P.underlying t = some (.slice (P.elem t)) := by simp [Program.elem, ht]
  have he : P.elem t = e := by simp [Program.elem, ht]
  have hs : ∀ W, (sizeOf e).run P W = .ok 1 W := fun W => by simp [sizeOf, typeInfo, hi, hz1]
  have hlen : (l.drop n).length = l.length - n := List.length_drop
  refine ⟨if c = n then ao else ao.map (·.add (n * 1)), c - n, fun W => ?_, ?_, ?_⟩
  · rw [run_slice_l W t _ _ _ ht' .i64 _ (by omega) (by omega), he, hs]
    simp [Result.andThen, sliced]
  · refine ⟨_, _, by rw [hlen], by rw [hlen]; omega, by omega, ?_, ?_⟩
    · intro hne
      split at hne
      · omega
      · cases ao with
        | none => have := h3 rfl; omega
        | some a => simp at hne
    · intro a ha j u hu
      have hj : j < l.length - n := by
        have := (List.getElem?_eq_some_iff.1 hu).1
        simpa using this
      rw [if_neg (by omega)] at ha
      cases ao with
      | none => simp at ha
      | some a0 =>
        simp at ha
        subst ha
        rw [List.map_drop, List.getElem?_drop] at hu
        have := h4 a0 rfl (n + j) u hu
        have e2 : (a0.add n).add j = a0.add (n + j) := by
          unfold Addr.add
          by_cases hn0 : n = 0
          · subst hn0; simp
          · by_cases hj0 : j = 0
            · subst hj0; simp
            · simp [hn0, hj0]; omega
        rw [e2]
        exact this
  · intro k hk
    split at hk
    · cases ao with
      | none => simp [blk] at hk
      | some a => simpa [blk] using hk
    · cases ao with
      | none => simp [blk] at hk
      | some a => simpa [blk, add_block] using hk

end Go.Proofs.YtpdmocdfnakggaaDoor


set_option linter.unusedVariables false
namespace Go.Proofs.YtpdmocdfnakggaaDoor
open Go.RowKit Go.Extern.Stop Go.Stop Go.Extern

theorem new_ok (s : ByteArray) (w : World) : Calls Tryd.prog 52 #[.int .i64 0, .string s] w fun e w' => e = .returned .nilIface ∧ w' = w := by
  go_enter Tryd.func52, Tryd.ntmps52
  go_wp2
  go_ret
  exact ⟨rfl, rfl⟩
end Go.Proofs.YtpdmocdfnakggaaDoor

set_option linter.unusedVariables false

set_option linter.unusedVariables false

set_option linter.unusedVariables false


