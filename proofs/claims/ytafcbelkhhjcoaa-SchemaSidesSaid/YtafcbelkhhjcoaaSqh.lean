/-
  LAYER 12: slices.Grow of nil and slices.Concat, of numbers.
-/
import Derived.Test.YtafcbelkhhjcoaaSqf
import Derived.Lib.AppendZeros
set_option linter.unusedVariables false
set_option linter.unusedSimpArgs false
namespace Go.Proofs.Ytafcbelkhhjcoaa
open Go.RowKit Go.Deep

theorem info3 {P : Program} {e : TypeId} {z : Value} {size bytes : Nat} (hinfo : (P.info? e).map (fun i => (i.zero, i.size, i.bytes)) = some (some z, size, bytes)) : ∃ i, P.info? e = some i ∧ i.zero = some z ∧ i.size = size ∧ i.bytes = bytes := by
  cases hq : P.info? e with
  | none => rw [hq] at hinfo; cases hinfo
  | some i => rw [hq] at hinfo; simp at hinfo; exact ⟨i, rfl, hinfo⟩

/-- 'x[:k]', k within the room. -/
theorem slice_to {P : Program} (t e : TypeId) (ht : P.underlying t = some (.slice e)) {i : TypeInfo} (hi : P.info? e = some i) (ao : Option Addr) (n c k : Nat) (hk : k ≤ c) (kd : IntKind) :
    ∀ W, (Instr.slice t (.slice ao n c) none (some (.int kd (k : Int))) none).run P W = .ok (.slice ao k c) W := fun W => by
  have ht' : P.underlying t = some (.slice (P.elem t)) := by simp [Program.elem, ht]
  have he : P.elem t = e := by simp [Program.elem, ht]
  have hs : ∀ W, (sizeOf e).run P W = .ok i.size W := fun W => by simp [sizeOf, typeInfo, hi]
  have hsame : (if c = 0 then ao else ao.map (·.add (0 * i.size))) = ao := by
    split
    · rfl
    · cases ao <;> simp [Addr.add]
  rw [run_slice_h W t _ _ _ ht' kd _ (by omega) (by omega), he, hs]
  simp only [Result.andThen, sliced]
  rw [hsame]
  simp

theorem info_int1 : (Try.prog.info? 3).map (fun i => (i.zero, i.size, i.bytes)) = some (some (.int .i64 0), 1, 8) := by kernel_rfl

theorem zero_len (z : Array Value) (n : Nat) : (Builtin.zeroCells z n).size = n * z.size := by simp [Builtin.zeroCells]

/-- A row that append of a made one lays: nothing of it is used. -/
theorem own_zeros {w : World} {e : TypeId} {size : Nat} {cs : Array Value} {cap : Nat} (hs : cs.size = cap * size) (hc : cap ≤ maxLen) : (w.drew.alloc (.cells cs e)).ownsRow w.heap.size e size (.slice (some ⟨w.heap.size, 0, none⟩) 0 cap) 0 [] := by
  refine ⟨by simp, .inr ⟨w.heap.size, cap, cs, rfl, Nat.le_refl _, ?_, Nat.zero_le _, hc, hs, by simp⟩⟩
  exact heap_alloc_new w.drew _

/-- What Grow of nil gives: room. -/
def Room (e : TypeId) (size : Nat) (w : World) (x : Ending) (w' : World) : Prop := ∃ v, x = .returned v ∧ w'.ownsRow w.heap.size e size v 0 [] ∧ Below w.heap.size w w'

set_option maxHeartbeats 4000000 in
set_option maxRecDepth 100000 in
theorem growI_any (n : Nat) (w : World) (hn : n ≤ 1000000) : Calls Try.prog 226 #[.slice none 0 0, .int .i64 (n : Int)] w (Room 3 1 w) := by
  obtain ⟨i0, hi, hz0, hz1, hz2⟩ := info3 (P := Try.prog) info_int1
  by_cases h0 : n = 0
  · subst h0
    go_enter Try.func226, Try.ntmps226
    go_wp2_with fail
    go_ret
    exact ⟨_, rfl, World.ownsRow_nil _ _ _ _, Below.refl _ _⟩
  · have hs1 := slice_to (P := Try.prog) 31 3 Try.underlying31 hi none 0 0 0 (Nat.le_refl _) .i64
    have happ := Lib.run_append_nil_zeros (P := Try.prog) w 31 3 31 3 i0 _ .i64 .i64 Try.underlying31 Try.underlying3 hi hz0 n (by omega) (by rw [hz1]; decide) (by omega) (by rw [hz2]; omega)
    have hcap : grownCap w n 0 3 ≤ maxLen := grownCap_le_maxLen w n 0 _ (by unfold maxLen; omega)
    have hcg := grownCap_ge w n 0 3
    have hs2 := slice_to (P := Try.prog) 31 3 Try.underlying31 hi (some ⟨w.heap.size, 0, none⟩) n (grownCap w n 0 3) 0 (Nat.zero_le _) .i64
    have hsz : (Builtin.zeroCells (Value.int .i64 0).cells n ++ Builtin.zeroCells (Value.int .i64 0).cells (grownCap w n 0 3 - n)).size = grownCap w n 0 3 * 1 := by
      rw [Array.size_append, zero_len, zero_len]
      show n * 1 + (grownCap w n 0 3 - n) * 1 = _
      omega
    have HOWN := hid (own_zeros (w := w) (e := 3) hsz hcap)
    have HB : Hid (Below w.heap.size w (w.drew.alloc (.cells (Builtin.zeroCells (Value.int .i64 0).cells n ++ Builtin.zeroCells (Value.int .i64 0).cells (grownCap w n 0 3 - n)) 3))) := (Below.drew (Below.refl _ w)).alloc (Nat.le_refl _) _
    generalize Builtin.zeroCells (Value.int .i64 0).cells n ++ Builtin.zeroCells (Value.int .i64 0).cells (grownCap w n 0 3 - n) = cs at *
    clear hsz hi hz0 hz1 hz2
    have hpos : (0 : Int) < (n : Int) := by omega
    go_enter Try.func226, Try.ntmps226
    go_wp2_with (at_builtin; refine Lib.wpList_append_run _ rfl _ _ _ _ rfl _ _ rfl rfl _ _ happ ?_)
    go_ret
    exact ⟨_, rfl, HOWN.out, HB.out⟩

/-- What stands in the first k lists, one behind the other. -/
def catK (YS : List (Value × List (List Value))) (k : Nat) : List (List Value) := ((YS.take k).map (·.2)).flatten
def catA (YS : List (Value × List (List Value))) : List (List Value) := (YS.map (·.2)).flatten

theorem catK_succ {YS : List (Value × List (List Value))} {k : Nat} {y : Value × List (List Value)} (h : YS[k]? = some y) : catK YS (k + 1) = catK YS k ++ y.2 := by
  unfold catK
  rw [List.take_add_one, h]
  show (((YS.take k) ++ [y]).map (·.2)).flatten = _
  rw [List.map_append, List.flatten_append]
  simp
theorem catK_all (YS : List (Value × List (List Value))) : catK YS YS.length = catA YS := by unfold catK catA; rw [List.take_length]
theorem catK_le (YS : List (Value × List (List Value))) (k : Nat) : (catK YS k).length ≤ (catA YS).length := by
  have : catA YS = catK YS k ++ ((YS.drop k).map (·.2)).flatten := by
    unfold catA catK
    rw [← List.flatten_append, ← List.map_append, List.take_append_drop]
  rw [this, List.length_append]; omega

/-- Lists in memory, and a list of them. -/
structure Cats (size : Nat) (w : World) (x : Value) (YS : List (Value × List (List Value))) : Prop where
  outer : Rws 1 w x (YS.map fun y => [y.1])
  each : ∀ y ∈ YS, Rws size w y.1 y.2

theorem Cats.old {size : Nat} {w w' : World} {x : Value} {YS : List (Value × List (List Value))} (h : Cats size w x YS) (hb : Below w.heap.size w w') : Cats size w' x YS := ⟨h.outer.old hb, fun y hy => (h.each y hy).old hb⟩

/-- What Concat gives. -/
def CatR (e : TypeId) (size : Nat) (L : List (List Value)) (w : World) (x : Ending) (w' : World) : Prop := ∃ v, x = .returned v ∧ w'.ownsRow w.heap.size e size v L.length L.flatten ∧ Below w.heap.size w w'

theorem own_step {w wr w1 : World} {e : TypeId} {size : Nat} {A B : List (List Value)} {x x' : Value} (hbb : Below w.heap.size w wr) (hown : wr.ownsRow w.heap.size e size x A.length A.flatten)
    (hown' : w1.ownsRow w.heap.size e size x' (A.length + B.length) (A.flatten ++ B.flatten)) (hg : wr.grownBy w1 x.ownBlock) :
    Hid (w1.ownsRow w.heap.size e size x' (A ++ B).length (A ++ B).flatten) ∧ Hid (Below w.heap.size w w1) := by
  refine ⟨?_, hbb.trans ((Below.refl w.heap.size wr).grown hg hbb.size (fun k hk => (hown.lt k hk).1))⟩
  show World.ownsRow _ _ _ _ _ _ _
  rw [List.flatten_append, List.length_append]
  exact hown'

set_option maxHeartbeats 8000000 in
set_option maxRecDepth 100000 in
theorem concatI_any (x : Value) (YS : List (Value × List (List Value))) (w : World) (hc : Cats 1 w x YS) (hl : (catA YS).length ≤ 100000) (hn : YS.length ≤ 100000) :
    Calls Try.prog 174 #[x] w (CatR 3 1 (catA YS) w) := by
  obtain ⟨ao, c, rfl, hc1, hc2⟩ := hc.outer.form
  rw [List.length_map] at *
  have HC := hid hc
  clear hc hc1 hc2
  go_enter Try.func174, Try.ntmps174
  go_wp2_with fail
  go_loop [3, 11] (fun s i => ∃ k : Nat, k ≤ YS.length ∧ i = .int .i64 k ∧ s = .int .i64 ((catK YS k).length : Int)) (fun _ i => YS.length - (intOf i).toNat)
  case atStart => exact ⟨0, by omega, rfl, rfl⟩
  case round =>
    obtain ⟨k, hk, rfl, rfl⟩ := hrel
    by_cases hlt : k < YS.length
    · have hv := List.getElem?_eq_getElem hlt
      generalize YS[k] = y at *
      obtain ⟨b, off, rfl, d1⟩ := HC.out.outer.get (by decide) (k := k) (r := [y.1]) (by rw [List.getElem?_map, hv]; rfl)
      have d1' := d1 0 _ rfl
      rw [Nat.mul_one, Nat.add_zero] at d1'
      obtain ⟨ya, yc, hy1, -, -⟩ := (HC.out.each y (List.mem_of_getElem? hv)).form
      rw [hy1] at d1'
      have hcs := catK_succ hv
      have hle := catK_le YS (k + 1)
      rw [hcs, List.length_append] at hle
      have hw : IntKind.i64.wrap (((catK YS k).length : Int) + (y.2.length : Int)) = (((catK YS (k + 1)).length : Nat) : Int) := by rw [hcs, List.length_append, IntKind.wrap_i64]; omega
      have hneg : ¬ (((catK YS (k + 1)).length : Int) < 0) := by omega
      clear d1 hy1 hv hcs
      go_wp2_with fail
      go_round
      case rel => exact ⟨k + 1, by omega, by go_num, rfl⟩
      case measure => simp [intOf]; omega
    · obtain rfl : k = YS.length := by omega
      rw [catK_all]
      have CG := growI_any (catA YS).length w (by omega)
      go_wp2_with (first | (go_at_call 226; refine CG.mono ?_))
      rintro e w1 ⟨v, rfl, ho, hb⟩
      have HO1 := hid ho
      have HB1 := hid hb
      clear ho hb CG
      go_wp2_with fail
      go_loopw [6, 27] (fun z i wr => ∃ k : Nat, k ≤ YS.length ∧ i = .int .i64 k ∧ Hid (wr.ownsRow w.heap.size 3 1 z (catK YS k).length (catK YS k).flatten) ∧ Hid (Below w.heap.size w wr)) (fun _ i _ => YS.length - (intOf i).toNat)
      case atStart => exact ⟨0, by omega, rfl, HO1, HB1⟩
      case round =>
        obtain ⟨k, hk, rfl, HO, HB⟩ := hrel
        by_cases hlt : k < YS.length
        · have hv := List.getElem?_eq_getElem hlt
          generalize YS[k] = y at *
          have HCr := hid (HC.out.old HB.out)
          obtain ⟨b, off, rfl, d1⟩ := HCr.out.outer.get (by decide) (k := k) (r := [y.1]) (by rw [List.getElem?_map, hv]; rfl)
          have d1' := d1 0 _ rfl
          rw [Nat.mul_one, Nat.add_zero] at d1'
          have hyr := HCr.out.each y (List.mem_of_getElem? hv)
          obtain ⟨ya, yc, hy1, -, -⟩ := hyr.form
          rw [hy1] at d1' hyr
          have HY := hid hyr
          have HCS := hid (catK_succ hv)
          have hle := catK_le YS (k + 1)
          rw [HCS.out, List.length_append] at hle
          clear d1 hy1 hv hyr
          go_wp2_with (first
            | (at_builtin; refine wp_rapp rfl _ _ 31 rfl w.heap.size 1 8 3 Try.underlying31 _ info_int1 (by decide) (by decide) _ _ _ rfl HO.out _ y.2 rfl HY.out ?c1 ?c2 ?c3 ?_))
          case c1 => omega
          case c2 => unfold maxLen; omega
          case c3 => exact HB.out.size
          intro x4 w4 o4 g4
          obtain ⟨q1, q2⟩ := own_step HB.out HO.out o4 g4
          clear o4 g4
          go_wp2_with fail
          go_roundw
          case rel => exact ⟨k + 1, by omega, by go_num, by rw [HCS.out]; exact q1, q2⟩
          case measure => simp [intOf]; omega
        · obtain rfl : k = YS.length := by omega
          go_wp2_with fail
          go_ret
          have := HO.out
          rw [catK_all] at this
          exact ⟨_, rfl, this, HB.out⟩
end Go.Proofs.Ytafcbelkhhjcoaa
