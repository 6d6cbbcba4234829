/-
  LAYER 12, THE CODE's: one cell of each of a list (made by src2/gen_seach.py).
-/
import Derived.Test.YtafcbelkhhjcoaaSqb
import Derived.Test.YtafcbelkhhjcoaaSd
import Derived.Test.YtafcbelkhhjcoaaSg
set_option linter.unusedVariables false
set_option linter.unusedSimpArgs false
set_option maxRecDepth 100000
namespace Go.Proofs.Ytafcbelkhhjcoaa
open Go.RowKit Go.Deep

set_option maxHeartbeats 2000000 in
theorem eachCol1_any (w : World) (u : Col) : Calls Try.prog 231 #[.agg #[.string ⟨u.name.toArray⟩, .int .i64 u.kind, .bool u.null]] w (fun e w' => e = .returned (.string ⟨u.name.toArray⟩) ∧ Below w.heap.size w w') := by
  go_enter Try.func231, Try.ntmps231
  go_upto_region 1 with fail
  have hb := (Below.refl w.heap.size w).alloc (Nat.le_refl _) (.cells #[.string ⟨u.name.toArray⟩, .int .i64 u.kind, .bool u.null] 123)
  have hz := heap_alloc_new w (.cells #[.string ⟨u.name.toArray⟩, .int .i64 u.kind, .bool u.null] 123)
  generalize w.alloc (.cells #[.string ⟨u.name.toArray⟩, .int .i64 u.kind, .bool u.null] 123) = w1 at *
  have HB := hid hb
  have z0 := cell_in hz 0 _ rfl
  clear hb hz
  go_wp2_with fail
  go_ret
  exact ⟨rfl, HB.out⟩

set_option maxHeartbeats 4000000 in
theorem eachCol_any (w : World) {x : Value} {l : List Col} (hx : Rws 3 w x (l.map colRow)) (hl : l.length ≤ 100) : Calls Try.prog 230 #[x, .func (.func 231) #[] #[]] w
    (fun e w' => ∃ v, e = .returned v ∧ Below w.heap.size w w' ∧ Rws 1 w' v ((l.map (·.name)).map sRow)) := by
  obtain ⟨ao, c, rfl, h1, h2, hc⟩ := cl_cells hx
  have hlm : l.length ≤ 9223372036854775807 := by omega
  have HC := hid hc
  clear hx hc
  go_enter Try.func230, Try.ntmps230
  go_wp2_with fail
  go_loopw [5, 10] (fun v j wr => ∃ k : Nat, k ≤ l.length ∧ j = .int .i64 (k : Int) ∧ Below w.heap.size w wr ∧ Hid (wr.ownsRow w.heap.size 9 1 v k ((((l.take k).map (·.name)).map sRow).flatten)))
    (fun _ j _ => l.length - (intOf j).toNat)
  case atStart => exact ⟨0, by omega, rfl, Below.refl _ _, hid ⟨by simp, .inl ⟨rfl, rfl⟩⟩⟩
  case round =>
    obtain ⟨k, hk, rfl, hb, HO⟩ := hrel
    have HB := hid hb
    clear hb
    by_cases hlt : k < l.length
    · obtain ⟨u, hu⟩ : ∃ u, l[k]? = some u := ⟨_, List.getElem?_eq_getElem hlt⟩
      obtain ⟨b, off, rfl, c0, c1, c2⟩ := HC.out k u hu
      have hki : (k : Int) < (l.length : Int) := by omega
      have k0 := (HB.out.cell (block_cell c0)).trans c0
      have k1 := (HB.out.cell (block_cell c1)).trans c1
      have k2 := (HB.out.cell (block_cell c2)).trans c2
      clear c0 c1 c2
      have HT : Hid (((((l.take (k + 1)).map (·.name)).map sRow).flatten) = ((((l.take k).map (·.name)).map sRow).flatten) ++ [.string ⟨u.name.toArray⟩]) := hid (by
        rw [List.take_add_one, hu, Option.toList, List.map_append, List.map_append, List.flatten_append]; rfl)
      clear hu
      go_upto_region 5 with fail
      have hb3 := (Below.refl wr.heap.size wr).alloc (Nat.le_refl _) (.cells #[.string ⟨u.name.toArray⟩, .int .i64 u.kind, .bool u.null] 123)
      have hz3 := heap_alloc_new wr (.cells #[.string ⟨u.name.toArray⟩, .int .i64 u.kind, .bool u.null] 123)
      generalize wr.alloc (.cells #[.string ⟨u.name.toArray⟩, .int .i64 u.kind, .bool u.null] 123) = w3 at *
      have HB3 := hid hb3
      have HBW := hid (below_step HB.out hb3)
      have HO3 := hid (own_keep HO.out (Keep.of_below (X := fun _ => False) hb3) (fun _ _ e => e))
      have z0 := cell_in hz3 0 _ rfl
      have z1 := cell_in hz3 1 _ rfl
      have z2 := cell_in hz3 2 _ rfl
      clear hb3 hz3
      have CF := hid (eachCol1_any w3 u)
      go_wp2_with (first
        | (go_at_call 231; refine CF.out.mono ?_; rintro en w4 ⟨rfl, hb4⟩
           have HB4 := hid (below_step HBW.out hb4)
           have HO4 := hid (own_keep HO3.out (Keep.of_below (X := fun _ => False) hb4) (fun _ _ e => e))
           have hao := hid (HO4.out.alloc (.cells #[.string ⟨u.name.toArray⟩] 9))
           have hv1 : Hid (Rws 1 (w4.alloc (.cells #[.string ⟨u.name.toArray⟩] 9)) (.slice (some ⟨w4.heap.size, 0, none⟩) 1 1) [[.string ⟨u.name.toArray⟩]]) := Rws.one rfl ⟨rfl, fun u hu => by simp at hu; subst hu; rfl⟩
           clear hb4)
        | (at_builtin; refine wp_rapp rfl _ _ 182 rfl w.heap.size 1 16 9 Try.underlying182 (.string ⟨#[]⟩) (by kernel_rfl) (by simp [Value.cells]) (by decide) _ _ _ rfl hao.out _ [[.string ⟨u.name.toArray⟩]] rfl hv1.out ?cj1 ?cj2 ?cj3 (fun x5 w5 o5 g5 => ?_)))
      case cj1 => simp; omega
      case cj2 => unfold maxLen; simp; omega
      case cj3 => have := HB4.out.size; simp; omega
      have HO5 : Hid (w5.ownsRow w.heap.size 9 1 x5 (k + 1) ((((l.take (k + 1)).map (·.name)).map sRow).flatten)) := by
        show World.ownsRow _ _ _ _ _ _ _
        rw [HT.out]
        simpa using o5
      have HB5 : Hid (Below w.heap.size w w5) := HB4.out.trans (((Below.refl w.heap.size w4).alloc HB4.out.size _).grown g5 (by simp; have := HB4.out.size; omega) (fun j hj => (HO4.out.lt j hj).1))
      clear o5 g5
      go_wp2_with fail
      go_roundw
      case rel => exact ⟨k + 1, by omega, by go_num, HB5.out, HO5⟩
      case measure => simp [intOf]; omega
    · obtain rfl : k = l.length := by omega
      rw [List.take_length] at HO
      go_wp2_with fail
      go_ret
      refine ⟨_, rfl, HB.out, Rws.own (e := 9) (base := w.heap.size) (by rw [List.length_map, List.length_map]; exact HO.out) (fun r hr => ?_)⟩
      obtain ⟨z, -, rfl⟩ := List.mem_map.1 hr
      exact ⟨rfl, fun u hu => by simp [sRow] at hu; subst hu; rfl⟩

end Go.Proofs.Ytafcbelkhhjcoaa
