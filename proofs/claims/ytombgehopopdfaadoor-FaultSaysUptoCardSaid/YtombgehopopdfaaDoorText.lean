/-
  THE TEXTS: (Errno).Error, (*errorString).Error.
-/
import Derived.Test.YtombgehopopdfaaDoorChain
import Derived.Great.Walk
import Derived.Great.BuildSlice
set_option linter.unusedVariables false
namespace Go.Proofs.YtombgehopopdfaaDoor
open Go.RowKit Go.Extern.Stop Go.Stop Go.Extern Go.Great

/-- The names of the codes. -/
def nameList : List ByteArray := [⟨#[111, 107]⟩, ⟨#[97, 114, 103, 117, 109, 101, 110, 116]⟩, ⟨#[110, 105, 108]⟩, ⟨#[100, 111, 119, 110]⟩, ⟨#[102, 117, 108, 108]⟩, ⟨#[110, 111, 110, 101]⟩, ⟨#[116, 119, 105, 99, 101]⟩, ⟨#[115, 116, 97, 116, 101]⟩, ⟨#[115, 104, 111, 114, 116]⟩, ⟨#[102, 111, 114, 109]⟩, ⟨#[108, 111, 110, 103]⟩, ⟨#[98, 97, 100]⟩, ⟨#[108, 111, 99, 107, 101, 100]⟩, ⟨#[99, 104, 97, 110, 103, 101, 100]⟩, ⟨#[114, 97, 110, 103, 101]⟩, ⟨#[101, 112, 111, 99, 104]⟩, ⟨#[97, 98, 111, 114, 116, 101, 100]⟩, ⟨#[117, 110, 105, 113, 117, 101]⟩, ⟨#[110, 111, 32, 105, 110, 100, 101, 120]⟩, ⟨#[108, 101, 97, 100, 101, 114]⟩, ⟨#[119, 97, 105, 116]⟩, ⟨#[118, 101, 114, 115, 105, 111, 110]⟩]
def unknownName : ByteArray := ⟨#[117, 110, 107, 110, 111, 119, 110]⟩
def errText (n : Int) : ByteArray := if n < 0 ∨ 22 ≤ n then unknownName else nameList.getD n.toNat unknownName
theorem errText_le (n : Int) : (errText n).size ≤ 16 := by
  unfold errText
  split
  · decide
  · rename_i h
    have : ∀ k < 22, (nameList.getD k unknownName).size ≤ 16 := by decide
    exact this n.toNat (by omega)
def nameVals : Array Value := (nameList.map Value.string).toArray
def noNames : Array Value := (List.replicate 22 (Value.string .empty)).toArray
theorem nameVals_at (k : Nat) (h : k < 22) : nameVals[k]? = some (.string (errText k)) := by
  have h1 : errText k = nameList.getD k unknownName := by unfold errText; rw [if_neg (by omega)]; rfl
  have hl : nameList.length = 22 := by decide
  rw [h1, List.getD_eq_getElem?_getD, List.getElem?_eq_getElem (by omega), Option.getD_some]
  unfold nameVals
  rw [List.getElem?_toArray, List.getElem?_map, List.getElem?_eq_getElem (by omega)]
  rfl

/-- The world in which the names lie. -/
def namesWorld (w : World) : World := (w.alloc (.cells noNames 83)).setRow w.heap.size nameVals
theorem names_below (w : World) : Below w.heap.size w (namesWorld w) := by
  refine ⟨rfl, rfl, rfl, by simp [namesWorld], fun k hk => ?_⟩
  unfold namesWorld
  rw [setRow_other _ _ _ _ (by omega)]
  exact Below.heap_alloc _ _ _ hk
theorem names_cell (w : World) (k : Nat) (h : k < 22) : (namesWorld w).cell? ⟨w.heap.size, k, none⟩ = some (.string (errText k)) := by
  unfold namesWorld
  rw [cell_setRow_same _ _ _ _ _ _ _ (alloc_at _ _), nameVals_at k h]

set_option maxHeartbeats 4000000 in
set_option maxRecDepth 100000 in
theorem nerror_any (n : Int) (w : World) : Calls Tryd.prog 26 #[.int .i64 n] w fun e w' => e = .returned (.string (errText n)) ∧ Below w.heap.size w w' := by
  have HB := hid (names_below w)
  have HC := hid (names_cell w)
  go_enter Tryd.func26, Tryd.ntmps26
  apply wp_seq_k; intro K0 hK0; apply wp_region_lit
  refine wpList_readTo rfl (some 2) rfl (.string .empty) (by as_aux_lemma => kernel_rfl) ?_
  apply wpList_nil
  refine hK0 _ _ ?_
  clear hK0 K0
  apply wp_seq_k; intro K1 hK1; apply wp_region_lit
  refine wpList_buildTo rfl 83 _ rfl (some 4) rfl nameVals (by as_aux_lemma => kernel_rfl) ?_
  refine wpList_allocTo rfl (some 3) rfl (.pointer (some ⟨w.heap.size, 0, none⟩)) (.cells noNames 83) (by as_aux_lemma => kernel_rfl) ?_
  refine wpList_store_rowTo rfl 83 _ _ rfl rfl w.heap.size nameVals rfl rfl 83 noNames (alloc_at _ _) (by as_aux_lemma => kernel_rfl) (by as_aux_lemma => kernel_rfl) (by as_aux_lemma => kernel_rfl) ?_
  apply wpList_nil
  refine hK1 _ _ ?_
  clear hK1 K1
  change Code.wp _ _ _ _ (namesWorld w)
  simp only [Act.put, List.setIfInBounds_toArray, List.set_cons_succ, List.set_cons_zero]
  generalize namesWorld w = W at *
  by_cases h1 : n < 0
  · have HE : Hid (errText n = ⟨#[117, 110, 107, 110, 111, 119, 110]⟩) := by unfold errText; rw [if_pos (.inl h1)]; exact rfl
    go_wp2
    go_ret
    exact ⟨by rw [HE.out]; rfl, HB.out⟩
  · by_cases h2 : n ≥ 22
    · have HE : Hid (errText n = ⟨#[117, 110, 107, 110, 111, 119, 110]⟩) := by unfold errText; rw [if_pos (.inr h2)]; exact rfl
      go_wp2
      go_ret
      exact ⟨by rw [HE.out]; rfl, HB.out⟩
    · obtain ⟨k, rfl⟩ := Int.eq_ofNat_of_zero_le (a := n) (by omega)
      have hk : k < 22 := by omega
      have hc := HC.out k hk
      go_wp2
      go_ret
      exact ⟨rfl, HB.out⟩

theorem serror_any (b : Nat) (s : ByteArray) (w : World) (h : w.heap[b]? = some (.cells #[.string s] 72 (0, 0))) :
    Calls Tryd.prog 60 #[.pointer (some ⟨b, 0, none⟩)] w fun e w' => e = .returned (.string s) ∧ w' = w := by
  have h1 : w.cell? ⟨b, 0, none⟩ = some (.string s) := by simp [World.cell?, h]
  go_enter Tryd.func60, Tryd.ntmps60
  go_wp2
  go_ret
  exact ⟨rfl, rfl⟩
end Go.Proofs.YtombgehopopdfaaDoor
