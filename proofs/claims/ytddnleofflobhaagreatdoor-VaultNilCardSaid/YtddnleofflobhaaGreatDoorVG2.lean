import Derived.Test.YtddnleofflobhaaGreatDoorRows
import Derived.WalkKit
import Derived.WalkSpells
import Derived.WalkLawsBesides
import Derived.Laws.AppendOwnNone
import Derived.BigQuiet
import Derived.Deep.QuietTactic
import Derived.Deep.MidRow
import Derived.Laws.MakeOwn
import Derived.Deep.Slices
import Derived.Deep.AppendLies
import Derived.Lib.Bytes
import Derived.Shelf.Abstract
import Derived.Test.YtddnleofflobhaaGreatDoorVG1
set_option linter.unusedVariables false
set_option linter.unusedSimpArgs false
set_option linter.unusedVariables false
set_option maxRecDepth 100000
namespace Go.Proofs.YtddnleofflobhaaGreatDoor
open Go.RowKit

section
variable {base : Nat} {w : World} {db sb n : Nat} {vw : Value} {S : List (List UInt8)} {Q : List Wr} {dn : Bool} {lf : Nat}

theorem able_any (h : Dk base w db sb n vw S Q dn lf) : Calls Tryz.prog 45 #[.pointer (some ⟨db, 0, none⟩)] w (fun e w' => e = .returned (.int .i64 (if dn then 3 else 0)) ∧ w' = w) := by
  obtain ⟨c0, c1, c2, c3, -, -, -, -⟩ := four_cells h.hd
  clear h
  cases dn
  · go_enter Tryz.func45, Tryz.ntmps45
    go_wp2_with fail
    go_ret
    exact ⟨rfl, rfl⟩
  · go_enter Tryz.func45, Tryz.ntmps45
    go_wp2_with fail
    go_ret
    exact ⟨rfl, rfl⟩

theorem has_any (h : Dk base w db sb n vw S Q dn lf) (z : Int) : Calls Tryz.prog 136 #[.pointer (some ⟨db, 0, none⟩), .int .i64 z] w (fun e w' => e = .returned (.bool (decide (0 ≤ z ∧ z < (n : Int)))) ∧ w' = w) := by
  obtain ⟨c0, c1, c2, c3, -, -, -, -⟩ := four_cells h.hd
  have hlen := fun W => run_len_slice (P := Tryz.prog) W 69 3 (some ⟨sb, 0, none⟩) n S.length Tryz.underlying69
  clear h
  by_cases h0 : 0 ≤ z
  · by_cases h1 : z < (n : Int)
    · go_enter Tryz.func136, Tryz.ntmps136
      go_wp2_with fail
      go_ret
      exact ⟨by simp [h0, h1], rfl⟩
    · go_enter Tryz.func136, Tryz.ntmps136
      go_wp2_with fail
      go_ret
      exact ⟨by simp [h0, h1], rfl⟩
  · go_enter Tryz.func136, Tryz.ntmps136
    go_wp2_with fail
    go_ret
    exact ⟨by simp; omega, rfl⟩

theorem counted0 (h : Dk base w db sb n vw S Q dn 0) : Calls Tryz.prog 148 #[.pointer (some ⟨db, 0, none⟩)] w (fun e w' => e = .returned (.int .i64 0) ∧ w' = w) := by
  obtain ⟨c0, c1, c2, c3, -, -, -, -⟩ := four_cells h.hd
  clear h
  go_enter Tryz.func148, Tryz.ntmps148
  go_wp2_with fail
  go_ret
  exact ⟨rfl, rfl⟩

theorem wait_form (h : Dk base w db sb n vw S Q dn lf) : ∃ ao c, vw = .slice ao Q.length c := by
  rcases h.wa.2 with ⟨rfl, h0⟩ | ⟨g, cap, cur, rfl, _⟩
  · rw [h0]; exact ⟨_, _, rfl⟩
  · exact ⟨_, _, rfl⟩

theorem waiting_any (h : Dk base w db sb n vw S Q dn lf) : Calls Tryz.prog 46 #[.pointer (some ⟨db, 0, none⟩)] w (fun e w' => e = .returned (.int .i64 (Q.length : Int)) ∧ w' = w) := by
  obtain ⟨ao, c, rfl⟩ := wait_form h
  obtain ⟨c0, c1, c2, c3, -, -, -, -⟩ := four_cells h.hd
  have hlen := fun W => run_len_slice (P := Tryz.prog) W 70 3 ao Q.length c Tryz.underlying70
  clear h
  go_enter Tryz.func46, Tryz.ntmps46
  go_wp2_with fail
  go_ret
  exact ⟨rfl, rfl⟩

end

end Go.Proofs.YtddnleofflobhaaGreatDoor

set_option linter.unusedVariables false
set_option maxRecDepth 100000
namespace Go.Proofs.YtddnleofflobhaaGreatDoor
open Go.RowKit

theorem info_sector : (Tryz.prog.info? 108).map (fun i => (i.size, i.bytes)) = some (64, 64) := by kernel_rfl
theorem zero_sector : (Tryz.prog.info? 108).bind (·.zero) = some (.agg (Array.replicate 64 (.int .u8 0))) := by kernel_rfl

theorem made_sectors (n : Nat) : madeCells (Array.replicate 64 (Value.int .u8 0)) (n * 64) = ((List.replicate n (List.replicate 64 (0 : UInt8))).flatten.map bv).toArray := by
  apply Array.toList_inj.1
  apply List.ext_getElem?
  intro j
  have hf : (List.replicate n (List.replicate 64 (0 : UInt8))).flatten = List.replicate (n * 64) 0 := by rw [List.flatten_replicate_replicate]
  rw [hf, List.map_replicate]
  by_cases hj : j < n * 64
  · have h2 : j % 64 < 64 := Nat.mod_lt _ (by decide)
    simp [madeCells, hj, List.getElem?_replicate, h2, bv]
  · simp [madeCells, hj, List.getElem?_replicate]

theorem run_made (n : Nat) (hn : n ≤ 65536) (w : World) : (Instr.makeSlice 69 (.int .i64 (n : Int)) (.int .i64 (n : Int))).run Tryz.prog w =
    .ok (.slice (some ⟨w.heap.size, 0, none⟩) n n) (w.alloc (.cells ((List.replicate n (List.replicate 64 (0 : UInt8))).flatten.map bv).toArray 108)) := by
  obtain ⟨i, hi, h1⟩ := Option.map_eq_some_iff.1 info_sector
  simp only [Prod.mk.injEq] at h1
  obtain ⟨hs, hb⟩ := h1
  have hz : i.zero = some (.agg (Array.replicate 64 (.int .u8 0))) := by
    have := zero_sector
    rw [hi] at this
    exact this
  have hr := run_make (P := Tryz.prog) w 69 108 i _ Tryz.underlying69 hi hz .i64 .i64 n n (by omega) (Int.le_refl _) (by rw [hb]; omega) (by omega)
  rw [hr]
  simp only [Int.toNat_natCast, hs, Value.cells, made_sectors]

/-- What New gives. -/
def NewA (n : Nat) (w : World) (e : Ending) (w' : World) : Prop := ∃ db sb, e = .returned (.tuple #[.pointer (some ⟨db, 0, none⟩), .int .i64 0]) ∧ Dk w.heap.size w' db sb n (.slice none 0 0) (List.replicate n (List.replicate 64 0)) [] false 0 ∧ Below w.heap.size w w'

theorem new_any (n : Nat) (h1 : 1 ≤ n) (h2 : n ≤ 65536) (w : World) : Calls Tryz.prog 14 #[.int .i64 (n : Int)] w (NewA n w) := by
  have e1 : ¬ ((n : Int) < 1) := by omega
  have e2 : ¬ (65536 < (n : Int)) := by omega
  have hm := run_made n h2
  obtain ⟨L, hL⟩ : ∃ L, L = ((List.replicate n (List.replicate 64 (0 : UInt8))).flatten.map bv).toArray := ⟨_, rfl⟩
  rw [← hL] at hm
  have HL := hid hL
  clear hL
  go_enter Tryz.func14, Tryz.ntmps14
  go_wp2_with fail
  go_ret2
  have hb : Below w.heap.size w ((w.alloc (.cells L 108)).alloc (.cells #[.slice (some ⟨w.heap.size, 0, none⟩) n n, .slice none 0 0, .bool false, .int .i64 0] 72)) := ((Below.refl _ _).alloc (Nat.le_refl _) _).alloc (by simp) _
  refine ⟨w.heap.size + 1, w.heap.size, rfl, ⟨⟨by omega, Nat.le_refl _⟩, ?_, ?_, World.ownsRow_nil _ _ _ _, (fun s hs => by rw [(List.mem_replicate.1 hs).2, List.length_replicate]), (fun x hx => by cases hx), by rw [List.length_replicate]; exact ⟨Nat.le_refl _, h2, by unfold maxLen; omega⟩⟩, hb⟩
  · rw [List.length_replicate]
    have h := heap_alloc_new (w.alloc (.cells L 108)) (.cells #[.slice (some ⟨w.heap.size, 0, none⟩) n n, .slice none 0 0, .bool false, .int .i64 0] 72)
    rw [show (w.alloc (.cells L 108)).heap.size = w.heap.size + 1 from by simp] at h
    exact h
  · rw [← HL.out]
    exact (Below.heap_alloc _ _ _ (by simp)).trans (heap_alloc_new _ _)

set_option maxHeartbeats 1000000 in
theorem clone_any (w : World) (x : Value) (l : List UInt8) (h : Rd w x l) (hl : l.length ≤ 140737488355328) :
    Calls Tryz.prog 61 #[x] w (Gives 5 w l) := by
  obtain ⟨ao, c, rfl, h1, h2, h3, h4⟩ := h
  cases ao with
  | none =>
    have hc := h3 rfl
    obtain rfl : l = [] := List.eq_nil_of_length_eq_zero (by omega)
    subst hc
    have heq := fun W => Lib.run_eql_slice_nil (P := Tryz.prog) W 25 5 none 0 0 0 0 Tryz.underlying25
    go_enter Tryz.func61, Tryz.ntmps61
    go_wp2_with fail
    go_ret
    exact ⟨_, rfl, World.ownsRow_nil _ _ _ _, Below.refl _ _⟩
  | some a =>
    have HR : Hid (Rd w (.slice (some a) l.length c) l) := ⟨some a, c, rfl, h1, h2, h3, h4⟩
    have heq := fun W => Lib.run_eql_slice_nil (P := Tryz.prog) W 25 5 (some a) l.length c 0 0 Tryz.underlying25
    have hown : (w.alloc (.cells #[] 5)).ownsRow w.heap.size 5 1 (.slice (some ⟨w.heap.size, 0, none⟩) 0 0) 0 [] := World.ownsRow_made w #[] 0 (Nat.le_refl _) (by decide) rfl
    have HR2 := HR.out.alloc (.cells #[] 5)
    clear h3 h4
    go_enter Tryz.func61, Tryz.ntmps61
    go_wp2_with (first
      | (at_builtin; refine wp_app rfl _ _ 25 rfl w.heap.size 5 Tryz.underlying25 (by kernel_rfl) _ _ _ rfl hown _ l rfl HR2 ?c1 ?c2 ?_))
    case c1 => omega
    case c2 => simp
    intro v' w1 hown' hgrow
    have hb : Below w.heap.size w w1 := ((Below.refl _ _).alloc (Nat.le_refl _) _).grown hgrow (by simp) (fun k hk => by simp [Value.ownBlock] at hk; omega)
    clear hgrow hown HR2
    go_wp2
    go_ret
    exact ⟨_, rfl, by simpa using hown', hb⟩

/-- What Read gives. -/
def ReadA (w : World) (s : List UInt8) (e : Ending) (w' : World) : Prop := ∃ x, e = .returned (.tuple #[x, .int .i64 0]) ∧ w'.ownsRow w.heap.size 5 1 x s.length (s.map bv) ∧ Below w.heap.size w w'

section
variable {base : Nat} {w : World} {db sb n : Nat} {vw : Value} {S : List (List UInt8)} {Q : List Wr} {lf : Nat}
theorem read_any (h : Dk base w db sb n vw S Q false lf) (k : Nat) (s : List UInt8) (hk : S[k]? = some s) (hkn : k < n) : Calls Tryz.prog 121 #[.pointer (some ⟨db, 0, none⟩), .int .i64 (k : Int)] w (ReadA w s) := by
  have hlt : k < n := hkn
  have hnS := h.few.1
  obtain ⟨c0, c1, c2, c3, f0, f1, f2, f3⟩ := four_cells h.hd
  have CA : Hid (Calls Tryz.prog 45 #[.pointer (some ⟨db, 0, none⟩)] w (fun e w' => e = .returned (.int .i64 0) ∧ w' = w)) := able_any h
  have CH : Hid (Calls Tryz.prog 136 #[.pointer (some ⟨db, 0, none⟩), .int .i64 (k : Int)] w (fun e w' => e = .returned (.bool true) ∧ w' = w)) := by
    have := has_any h (k : Int)
    rw [decide_eq_true (by omega)] at this
    exact this
  have CC : Hid (Calls Tryz.prog 61 #[.slice (some ⟨sb, k * 64, none⟩) 64 64] w (Gives 5 w s)) := clone_any w _ s (h.rd hk) (by rw [h.len s (List.mem_of_getElem? hk)]; decide)
  clear h hk
  go_enter Tryz.func121, Tryz.ntmps121
  go_wp2_with (first
    | (go_at_call 45; refine CA.out.mono ?_; rintro e w2 ⟨rfl, rfl⟩)
    | (go_at_call 136; refine CH.out.mono ?_; rintro e w2 ⟨rfl, rfl⟩)
    | (go_at_call 61; refine CC.out.mono ?_; rintro e w2 ⟨x, rfl, hx, hb2⟩))
  go_ret2
  exact ⟨x, rfl, hx, hb2⟩
end
end Go.Proofs.YtddnleofflobhaaGreatDoor

