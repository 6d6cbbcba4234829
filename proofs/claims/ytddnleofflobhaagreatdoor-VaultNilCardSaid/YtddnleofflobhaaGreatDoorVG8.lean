import Derived.Test.YtddnleofflobhaaGreatDoorRows
import Derived.WalkKit
import Derived.WalkSpells
import Derived.WalkLawsBesides
import Derived.Laws.AppendOwnNone
import Derived.BigQuiet
import Derived.Deep.QuietTactic
import Derived.Deep.MidRow
import Derived.Laws.MakeOwn
import Derived.Deep.CutBlock
import Derived.Deep.CutRange
import Derived.Sort.CutIn
import Derived.RangeFuncNested
import Derived.RangeFuncBound
import Derived.RangeFuncCalls
import Derived.RangeFuncLeaves
import Derived.RangeFuncBox
import Derived.Shelf.Abstract
import Derived.Shelf.RegionOpen
import Derived.OwnWalkIn
import Derived.TacticsInMore
import Derived.LoopNIn
import Derived.LoopIn
import Derived.OrdersIn
import Derived.LaidEql
import Derived.Stop.Asserts
import Derived.RowKitTokens
import Derived.Lib.Bytes
import Derived.Deep.RegionHeld3
import Derived.Deep.WholeRow
import Derived.BigRegion
import Derived.Great.BuildSlice
import Derived.Deep.AppendLies
import Derived.StillTailTactics
import Derived.Deep.RegionLaw
import Derived.Great.FillDense
import Derived.Laws.Tables
import Derived.LoopN
import Derived.Deep.OwnRows
import Derived.OwnWalk
import Derived.Deep.Slices
import Derived.OpenShut
import Derived.Deep.RegionWith
import Derived.Lib.SliceRun
import Derived.Test.YtddnleofflobhaaGreatDoorVG1
import Derived.Test.YtddnleofflobhaaGreatDoorVG2
import Derived.Test.YtddnleofflobhaaGreatDoorVG3
import Derived.Test.YtddnleofflobhaaGreatDoorVG4
import Derived.Test.YtddnleofflobhaaGreatDoorVG5
import Derived.Test.YtddnleofflobhaaGreatDoorVG6
import Derived.Test.YtddnleofflobhaaGreatDoorVG7
set_option linter.unusedVariables false
set_option linter.unusedSimpArgs false
set_option linter.unusedVariables false
set_option maxRecDepth 100000
namespace Go.Proofs.YtddnleofflobhaaGreatDoor
open Go.RowKit

section
variable {base : Nat} {w : World} {lb db sb n : Nat} {vw rv : Value} {S : List (List UInt8)} {Q : List Wr} {dn : Bool} {lf : Nat} {L : Ls}

theorem record_none (h : Lk w lb db rv L) (hD : Dk base w db sb n vw S Q false lf) (hk : L.h.Ok) (i : Nat) (hi : i ≤ 131072) (hn : 3 ≤ n) (ht : ∀ j, j ≤ 131072 → nmb n L.h j < 18446744073709551616) (hp : pieceM S n L.h i = none) :
    Calls Tryz.prog 75 #[.pointer (some ⟨lb, 0, none⟩), .int .i64 (i : Int)] w (fun e w' => e = .returned (.tuple #[.slice none 0 0, .nilIface]) ∧ Below w.heap.size w w') := by
  have CP0 := piece_any h hD hk i hi hn ht
  rw [hp] at CP0
  have CP : Hid (Calls Tryz.prog 107 #[.pointer (some ⟨lb, 0, none⟩), .int .i64 (i : Int)] w (fun e w' => e = .returned (.tuple #[.slice none 0 0, .nilIface]) ∧ Below w.heap.size w w')) := CP0.mono (fun e w' h => by
    obtain ⟨hb, ⟨-, he⟩ | ⟨b, g, c, hb2, -⟩⟩ := h
    · exact ⟨he, hb⟩
    · cases hb2)
  clear CP0 h hD ht hp
  have heq := fun W => Lib.run_eql_slice_nil (P := Tryz.prog) W 25 5 none 0 0 0 0 Tryz.underlying25
  go_enter Tryz.func75, Tryz.ntmps75
  go_wp2_with (first | (go_at_call 107; refine CP.out.mono ?_; rintro e w2 ⟨rfl, hb⟩))
  go_ret2
  exact ⟨rfl, hb⟩

set_option maxHeartbeats 2000000 in
theorem load_none (h : Lk w lb db rv L) (hD : Dk base w db sb n vw S Q false lf) (hlb : ¬ DX db sb vw lb) (hk : (newK S L.h 2).Ok) (hu : L.used ≤ 131072) (hn : 3 ≤ n) (ht : ∀ j, j ≤ 131072 → nmb n (newK S L.h 2) j < 18446744073709551616) (hp : pieceM S n (newK S L.h 2) L.used = none) :
    Calls Tryz.prog 48 #[.pointer (some ⟨lb, 0, none⟩)] w (fun e w' => e = .returned .nilIface ∧ Lk w' lb db rv { L with h := newK S L.h 2 } ∧ Keep (fun k => k = lb) w w') := by
  have CN := hid (newest_ok h hD hlb (by omega))
  have HD := hid hD
  have HN := hid hlb
  clear h hD hlb
  go_enter Tryz.func48, Tryz.ntmps48
  go_wp2_with (first | (go_at_call 74; refine CN.out.mono ?_))
  rintro e w2 ⟨rfl, hL2, hK2⟩
  have CR := hid (record_none hL2 (HD.out.kept hK2 (fun j hj e => HN.out (by rw [← e]; exact hj))) hk L.used hu hn ht hp)
  obtain ⟨c0, c1, c2, c3, c4, c5, c6, -⟩ := hL2.cells
  have HL2 := hid hL2
  have HK2 := hid hK2
  clear hL2 hK2 hp ht hk
  have heq := fun W => Lib.run_eql_slice_nil (P := Tryz.prog) W 25 5 none 0 0 0 0 Tryz.underlying25
  go_wp2_with fail
  refine wp_loop_rounds 1 ?_
  rw [rounds_succ]
  go_wp2_with (first | (go_at_call 75; refine CR.out.mono ?_; rintro e w3 ⟨rfl, hb3⟩))
  go_ret
  exact ⟨rfl, HL2.out.old hb3, HK2.out.trans (Keep.of_below hb3)⟩

def h0 : Hd := ⟨0, 0, 0, 0⟩
theorem h0_ok : h0.Ok := ⟨by decide, by decide, by decide, by decide⟩
/-- What Open gives where there is no record. -/
def OpenA (db : Nat) (S : List (List UInt8)) (q : Nat) (w : World) (e : Ending) (w' : World) : Prop :=
  ∃ lb, e = .returned (.tuple #[.pointer (some ⟨lb, 0, none⟩), .int .i64 0]) ∧ w.heap.size ≤ lb ∧ Lk w' lb db (.slice none 0 0) ⟨newK S h0 2, 0, false, q, false⟩ ∧ Below w.heap.size w w'

set_option maxHeartbeats 2000000 in
theorem open_none (hD : Dk base w db sb n vw S Q false lf) (hn : 3 ≤ n) (ht : ∀ j, j ≤ 131072 → nmb n (newK S h0 2) j < 18446744073709551616) (hp : pieceM S n (newK S h0 2) 0 = none) :
    Calls Tryz.prog 32 #[.pointer (some ⟨db, 0, none⟩)] w (OpenA db S Q.length w) := by
  have CD := hid (down_any hD)
  have CW := hid (waiting_any hD)
  have hb1 : Below w.heap.size w (w.alloc (.cells #[.pointer (some ⟨db, 0, none⟩), .int .u64 0, .int .u64 0, .int .i64 0, .int .i64 0, .slice none 0 0, .int .i64 0, .bool false, .int .i64 (Q.length : Int), .bool false] 91)) := (Below.refl _ _).alloc (Nat.le_refl _) _
  have hL1 : Lk (w.alloc (.cells #[.pointer (some ⟨db, 0, none⟩), .int .u64 0, .int .u64 0, .int .i64 0, .int .i64 0, .slice none 0 0, .int .i64 0, .bool false, .int .i64 (Q.length : Int), .bool false] 91)) w.heap.size db (.slice none 0 0) ⟨h0, 0, false, Q.length, false⟩ := heap_alloc_new _ _
  have hlb : ¬ DX db sb vw w.heap.size := fun hj => by have := (hD.lt _ hj).2; omega
  have CL := hid (load_none hL1 (hD.old hb1) hlb (newK_ok hD.len h0_ok 2 (by have := hD.few.1; omega)) (Nat.zero_le _) hn ht hp)
  have HB1 := hid hb1
  clear hD hb1 hL1 hlb ht hp
  go_enter Tryz.func32, Tryz.ntmps32
  go_wp2_with (first
    | (go_at_call 24; refine CD.out.mono ?_; rintro e w2 ⟨rfl, rfl⟩)
    | (go_at_call 46; refine CW.out.mono ?_; rintro e w3 ⟨rfl, rfl⟩)
    | (go_at_call 48; refine CL.out.mono ?_))
  rintro e w4 ⟨rfl, hL4, hK4⟩
  have HL4 := hid hL4
  have HK4 := hid hK4
  clear hL4 hK4
  go_wp2_with (first | (go_at_call 47; refine (told_ok _ _).mono ?_; rintro e w5 ⟨rfl, rfl⟩))
  go_ret2
  refine ⟨_, rfl, Nat.le_refl _, HL4.out, ?_⟩
  exact (HB1.out).trans (HK4.out.below (Nat.le_of_lt (by simp)) (fun k e => by rw [e]; exact Nat.le_refl _))
end
end Go.Proofs.YtddnleofflobhaaGreatDoor

set_option linter.unusedVariables false
set_option maxRecDepth 100000
namespace Go.Proofs.YtddnleofflobhaaGreatDoor
open Go.RowKit

/-- A record, with the slice that holds it. -/
structure Rc where
  a : Option Addr
  c : Nat
  b : List UInt8
def rcv (r : Rc) : Value := .slice r.a r.b.length r.c
/-- A list of records: its row, from some place of its block on. -/
structure Rof (w : World) (rv : Value) (R : List Rc) : Prop where
  row : (rv = .slice none 0 0 ∧ R = []) ∨ ∃ g o cap cur, rv = .slice (some ⟨g, o, none⟩) R.length cap ∧ w.heap[g]? = some (.cells cur 25 (0, 0)) ∧ R.length ≤ cap ∧ cap ≤ maxLen ∧ o + cap ≤ cur.size ∧ ∀ (j : Nat) r, R[j]? = some r → cur[o + j]? = some (rcv r)
  each : ∀ r ∈ R, Rd w (rcv r) r.b

theorem Rof.form {w : World} {rv : Value} {R : List Rc} (h : Rof w rv R) : ∃ ao c, rv = .slice ao R.length c ∧ R.length ≤ c ∧ c ≤ maxLen := by
  rcases h.row with ⟨rfl, rfl⟩ | ⟨g, o, cap, cur, rfl, _, h1, h2, _⟩
  · exact ⟨_, _, rfl, by simp, by simp⟩
  · exact ⟨_, _, rfl, h1, h2⟩
theorem Rof.nil (w : World) : Rof w (.slice none 0 0) [] := ⟨.inl ⟨rfl, rfl⟩, fun r hr => by cases hr⟩
theorem Rof.kept {w w' : World} {rv : Value} {R : List Rc} {X : Nat → Prop} (h : Rof w rv R) (hk : Keep X w w') (hx : ∀ k, blk rv = some k → ¬ X k) (hr : ∀ r ∈ R, r.b ≠ [] → ∀ a, r.a = some a → ¬ X a.block) : Rof w' rv R := by
  refine ⟨?_, fun r hm => (h.each r hm).keep hk (fun hn k hb => by obtain ⟨a, e, rfl⟩ := blk_of hb; exact hr r hm hn a e)⟩
  rcases h.row with h1 | ⟨g, o, cap, cur, rfl, hg, h1⟩
  · exact .inl h1
  · exact .inr ⟨g, o, cap, cur, rfl, (hk.block g (lt_of_block hg) (hx g rfl)).trans hg, h1⟩
theorem Rof.old {w w' : World} {rv : Value} {R : List Rc} (h : Rof w rv R) (hb : Below w.heap.size w w') : Rof w' rv R :=
  h.kept (X := fun _ => False) (Keep.of_below hb) (fun _ _ h => h) (fun _ _ _ _ _ h => h)
/-- One record's cell. -/
theorem Rof.get {w : World} {ao : Option Addr} {m c : Nat} {R : List Rc} (h : Rof w (.slice ao m c) R) {k : Nat} {r : Rc} (hk : R[k]? = some r) : ∃ g o, ao = some ⟨g, o, none⟩ ∧ w.cell? ⟨g, o + k, none⟩ = some (rcv r) := by
  rcases h.row with ⟨_, rfl⟩ | ⟨g, o, cap, cur, e, hg, _, _, _, h4⟩
  · simp at hk
  · simp only [Value.slice.injEq] at e
    refine ⟨g, o, e.1, ?_⟩
    unfold World.cell?
    rw [hg]
    exact h4 k r hk

theorem info_parts' {P : Program} {e : TypeId} {z : Value} {s b : Nat} (h : (P.info? e).map (fun i => (i.zero, i.size, i.bytes)) = some (some z, s, b)) : ∃ i, P.info? e = some i ∧ i.zero = some z ∧ i.size = s ∧ i.bytes = b := by
  cases hq : P.info? e with
  | none => rw [hq] at h; cases h
  | some i => rw [hq] at h; simp at h; exact ⟨i, rfl, h⟩
theorem info_bs : (Tryz.prog.info? 25).map (fun i => (i.zero, i.size, i.bytes)) = some (some (.slice none 0 0), 1, 24) := by kernel_rfl

theorem setCells_kept {b : Nat} : ∀ (vs : List Value) (o : Nat) (w : World), Keep (fun k => k = b) w (w.setCells b o vs) := fun vs o w => Keep.setCells (X := fun k => k = b) rfl vs o w w (Keep.refl _ _)

/-- The first n records struck, and cut off. -/
theorem Rof.cut {w : World} {rv : Value} {R : List Rc} (h : Rof w rv R) (n : Nat) (hn : n ≤ R.length) (hr : ∀ r ∈ R, r.b ≠ [] → ∀ a, r.a = some a → blk rv ≠ some a.block) :
    ∃ ao c vt w', (rv = .slice ao R.length c ∧ n ≤ c) ∧ (∀ k W, (Instr.slice 60 rv none (some (.int k (n : Int))) none).run Tryz.prog W = .ok (.slice ao n c) W) ∧ (∀ ty, (Builtin.clear_ #[60] ty #[.slice ao n c]).run Tryz.prog w = .ok (.tuple #[]) w') ∧
      (∀ W, (Instr.slice 60 rv (some (.int .i64 (n : Int))) none none).run Tryz.prog W = .ok vt W) ∧ Rof w' vt (R.drop n) ∧ Keep (fun k => blk rv = some k) w w' ∧ (∀ k, blk vt = some k → blk rv = some k) := by
  obtain ⟨i0, hi, hz0, hz1, hz2⟩ := info_parts' (show (Tryz.prog.info? 25).map (fun i => (i.zero, i.size, i.bytes)) = some (some (.slice none 0 0), 1, 24) from info_bs)
  have ht' : Tryz.prog.underlying 60 = some (.slice (Tryz.prog.elem 60)) := by simp [Program.elem, Tryz.underlying60]
  have he : Tryz.prog.elem 60 = 25 := by simp [Program.elem, Tryz.underlying60]
  have hs : ∀ W, (sizeOf 25).run Tryz.prog W = .ok 1 W := fun W => by simp [sizeOf, typeInfo, hi, hz1]
  obtain ⟨ao, c, rfl, hlc, hcm⟩ := h.form
  refine ⟨ao, c, .slice (if c = n then ao else ao.map (·.add (n * 1))) (R.length - n) (c - n), ?_⟩
  have hnc : n ≤ c := by omega
  have hs1 : ∀ k W, (Instr.slice 60 (.slice ao R.length c) none (some (.int k (n : Int))) none).run Tryz.prog W = .ok (.slice ao n c) W := fun k W => by
    rw [run_slice_h W 60 _ _ _ ht' k _ (by omega) (by omega), he, hs]
    simp only [Result.andThen, sliced]
    have hsame : (if c = 0 then ao else ao.map (·.add (0 * 1))) = ao := by
      split
      · rfl
      · cases ao <;> simp [Addr.add]
    rw [hsame]
    simp
  have hs2 : ∀ W, (Instr.slice 60 (.slice ao R.length c) (some (.int .i64 (n : Int))) none none).run Tryz.prog W = .ok (.slice (if c = n then ao else ao.map (·.add (n * 1))) (R.length - n) (c - n)) W := fun W => by
    rw [run_slice_l W 60 _ _ _ ht' .i64 _ (by omega) (by omega), he, hs]
    simp [Result.andThen, sliced]
  have hblk : ∀ k, blk (.slice (if c = n then ao else ao.map (·.add (n * 1))) (R.length - n) (c - n)) = some k → blk (.slice ao R.length c) = some k := fun k hk => by
    split at hk
    · cases ao with
      | none => cases hk
      | some a => exact hk
    · cases ao with
      | none => cases hk
      | some a => simpa [blk, add_block] using hk
  rcases h.row with ⟨e, rfl⟩ | ⟨g, o, cap, cur, e, hg, h1, h2, h3, h4⟩
  · simp only [Value.slice.injEq] at e
    obtain ⟨rfl, -, rfl⟩ := e
    have hn0 : n = 0 := by simpa using hn
    subst hn0
    refine ⟨w, ⟨rfl, hnc⟩, hs1, fun ty => ?_, hs2, by simpa using h, Keep.refl _ _, hblk⟩
    simp [Builtin.clear_, run_underlying Tryz.underlying60]
  · simp only [Value.slice.injEq, true_and] at e
    obtain ⟨rfl, rfl⟩ := e
    by_cases hn0 : n = 0
    · subst hn0
      have e0 : (if c = 0 then some (⟨g, o, none⟩ : Addr) else (some (⟨g, o, none⟩ : Addr)).map (·.add (0 * 1))) = some ⟨g, o, none⟩ := by
        split
        · rfl
        · simp [Addr.add]
      refine ⟨w, ⟨rfl, hnc⟩, hs1, fun ty => ?_, hs2, ?_, Keep.refl _ _, hblk⟩
      · simp [Builtin.clear_, run_underlying Tryz.underlying60]
      · rw [e0, Nat.sub_zero, Nat.sub_zero, List.drop_zero]
        exact h
    · have hcl := Lib.run_clear_slice (P := Tryz.prog) w 60 25 3 (.slice none 0 0) Tryz.underlying60 (fun W => by simp [zeroValue, typeInfo, hi, hz0]) rfl rfl g o n c (by omega)
        (fun j hj => by
          unfold World.cell?
          rw [hg]
          show (cur[o + j]?).isSome = true
          rw [Array.getElem?_eq_getElem (by omega)]
          rfl)
        (fun j hj => by unfold World.frozen?; rw [hg]; simp)
      obtain ⟨cur', q1, q2, q3⟩ := setCells_at (List.replicate n (.slice none 0 0)) o w cur hg (by rw [List.length_replicate]; omega)
      have hkp := setCells_kept (b := g) (List.replicate n (.slice none 0 0)) o w
      refine ⟨w.setCells g o (List.replicate n (.slice none 0 0)), ⟨rfl, hnc⟩, hs1, fun ty => ?_, hs2, ⟨.inr ?_, fun r hm => ?_⟩, hkp.mono (fun k _ e => by rw [e]; rfl), hblk⟩
      · have := Lib.run_clear_slice (P := Tryz.prog) w 60 25 ty (.slice none 0 0) Tryz.underlying60 (fun W => by simp [zeroValue, typeInfo, hi, hz0]) rfl rfl g o n c (by omega)
          (fun j hj => by
            unfold World.cell?
            rw [hg]
            show (cur[o + j]?).isSome = true
            rw [Array.getElem?_eq_getElem (by omega)]
            rfl)
          (fun j hj => by unfold World.frozen?; rw [hg]; simp)
        exact this
      · by_cases hcn : c = n
        · rw [if_pos hcn]
          have hd : R.drop n = [] := List.drop_eq_nil_of_le (by omega)
          refine ⟨g, o, c - n, cur', by rw [hd]; simp; omega, q1, by rw [hd]; simp, by omega, by rw [q2]; omega, fun j r hj => by rw [hd] at hj; simp at hj⟩
        · rw [if_neg hcn]
          refine ⟨g, o + n, c - n, cur', by rw [List.length_drop, Nat.mul_one, Option.map_some, Addr.add_mid], q1, by rw [List.length_drop]; omega, by omega, by rw [q2]; omega, fun j r hj => ?_⟩
          rw [List.getElem?_drop] at hj
          rw [q3, List.length_replicate, if_neg (by omega), Nat.add_assoc]
          exact h4 (n + j) r hj
      · have hm2 := List.mem_of_mem_drop hm
        exact (h.each r hm2).keep hkp (fun hne k hk e => by
          obtain ⟨a, ha, hak⟩ := blk_of hk
          exact hr r hm2 hne a ha (by rw [hak, e]; rfl))
end Go.Proofs.YtddnleofflobhaaGreatDoor

set_option linter.unusedVariables false
set_option maxRecDepth 100000
namespace Go.Proofs.YtddnleofflobhaaGreatDoor
open Go.RowKit

/-- The blocks of a log, of its disk, of its list. -/
def GL (db sb : Nat) (vw : Value) (lb : Nat) (rv : Value) : Nat → Prop := fun k => DL db sb vw lb k ∨ blk rv = some k
structure Lg (base : Nat) (w : World) (lb db sb n : Nat) (vw rv : Value) (S : List (List UInt8)) (Q : List Wr) (L : Ls) (R : List Rc) : Prop where
  d : Dk base w db sb n vw S Q false 0
  l : Lk w lb db rv L
  nlb : ¬ DX db sb vw lb
  r : Rof w rv R
  roff : ∀ k, blk rv = some k → ¬ DL db sb vw lb k
  boff : ∀ r ∈ R, r.b ≠ [] → ∀ a, r.a = some a → ¬ GL db sb vw lb rv a.block
  lo : base ≤ lb ∧ ∀ k, blk rv = some k → base ≤ k
structure Gfr (db sb lb : Nat) (vw vw' rv rv' : Value) (w w' : World) : Prop where
  keep : Keep (GL db sb vw lb rv) w w'
  new : ∀ k, GL db sb vw' lb rv' k → GL db sb vw lb rv k ∨ w.heap.size ≤ k

theorem Gfr.refl (db sb lb : Nat) (vw rv : Value) (w : World) : Gfr db sb lb vw vw rv rv w w := ⟨Keep.refl _ _, fun _ h => .inl h⟩
theorem Gfr.trans {db sb lb : Nat} {v v' v'' r r' r'' : Value} {a b c : World} (h : Gfr db sb lb v v' r r' a b) (k : Gfr db sb lb v' v'' r' r'' b c) : Gfr db sb lb v v'' r r'' a c :=
  ⟨h.keep.trans2 k.keep h.new, fun i hi => (k.new i hi).elim (h.new i) (fun hi => .inr (Nat.le_trans h.keep.size hi))⟩
theorem Gfr.of_below {db sb lb : Nat} {v r : Value} {a b : World} (h : Below a.heap.size a b) : Gfr db sb lb v v r r a b := ⟨Keep.of_below h, fun _ h => .inl h⟩
theorem Gfr.of_l {db sb lb : Nat} {v v' r : Value} {a b : World} (h : Lfr db sb v v' lb a b) : Gfr db sb lb v v' r r a b :=
  ⟨h.keep.mono (fun _ _ h => .inl h), fun k hk => by
    rcases hk with (hk | hk | hk | hk) | hk
    · exact .inl (.inl (.inl hk))
    · exact .inl (.inl (.inr (.inl hk)))
    · exact .inl (.inl (.inr (.inr (.inl hk))))
    · exact (h.new k hk).imp (fun h => .inl (.inr (.inr (.inr h)))) id
    · exact .inl (.inr hk)⟩

section
variable {base : Nat} {w w' : World} {lb db sb n : Nat} {vw rv vw' rv' : Value} {S S' : List (List UInt8)} {Q Q' : List Wr} {L L' : Ls} {R R' : List Rc}

theorem Rof.lt (h : Rof w rv R) : ∀ k, blk rv = some k → k < w.heap.size := fun k hk => by
  rcases h.row with ⟨rfl, _⟩ | ⟨g, o, cap, cur, rfl, hg, _⟩
  · cases hk
  · have : g = k := by simpa [blk] using hk
    subst this
    exact lt_of_block hg

theorem Lg.lt (h : Lg base w lb db sb n vw rv S Q L R) : ∀ k, GL db sb vw lb rv k → base ≤ k ∧ k < w.heap.size := fun k hk => by
  rcases hk with (hk | hk) | hk
  · subst hk; exact ⟨h.lo.1, h.l.lt⟩
  · exact h.d.lt k hk
  · exact ⟨h.lo.2 k hk, h.r.lt k hk⟩
theorem Lg.below (h : Lg base w lb db sb n vw rv S Q L R) (hf : Gfr db sb lb vw vw' rv rv' w w') : Below base w w' :=
  hf.keep.below (Nat.le_trans h.lo.1 (Nat.le_of_lt h.l.lt)) (fun k hk => (h.lt k hk).1)
/-- Behind what leaves all of it alone. -/
theorem Lg.kept {X : Nat → Prop} (h : Lg base w lb db sb n vw rv S Q L R) (hk : Keep X w w') (hx : ∀ k, GL db sb vw lb rv k → ¬ X k) (hb : ∀ r ∈ R, r.b ≠ [] → ∀ a, r.a = some a → ¬ X a.block) : Lg base w' lb db sb n vw rv S Q L R :=
  ⟨h.d.kept hk (fun k hk => hx k (.inl (.inr hk))), h.l.kept hk (hx lb (.inl (.inl rfl))), h.nlb, h.r.kept hk (fun k hk => hx k (.inr hk)) hb, h.roff, h.boff, h.lo⟩
theorem Lg.old (h : Lg base w lb db sb n vw rv S Q L R) (hb : Below w.heap.size w w') : Lg base w' lb db sb n vw rv S Q L R :=
  h.kept (X := fun _ => False) (Keep.of_below hb) (fun _ _ h => h) (fun _ _ _ _ _ h => h)
/-- Behind a call that writes to the disk and to the log's block. -/
theorem Lg.lfr (h : Lg base w lb db sb n vw rv S Q L R) (hD : Dk base w' db sb n vw' S' Q' false 0) (hL : Lk w' lb db rv L') (hn : ¬ DX db sb vw' lb) (hf : Lfr db sb vw vw' lb w w') : Lg base w' lb db sb n vw' rv S' Q' L' R ∧ Gfr db sb lb vw vw' rv rv w w' := by
  have hdl : ∀ k, DL db sb vw' lb k → DL db sb vw lb k ∨ w.heap.size ≤ k := fun k hk => by
    rcases hk with hk | hk | hk | hk
    · exact .inl (.inl hk)
    · exact .inl (.inr (.inl hk))
    · exact .inl (.inr (.inr (.inl hk)))
    · exact (hf.new k hk).imp (fun h => .inr (.inr (.inr h))) id
  refine ⟨⟨hD, hL, hn, h.r.kept hf.keep (fun k hk e => h.roff k hk e) (fun r hr hne a ha e => h.boff r hr hne a ha (.inl e)), fun k hk e => ?_, fun r hr hne a ha e => ?_, h.lo⟩, Gfr.of_l hf⟩
  · rcases hdl k e with e | e
    · exact h.roff k hk e
    · have := h.r.lt k hk; omega
  · rcases e with e | e
    · rcases hdl _ e with e | e
      · exact h.boff r hr hne a ha (.inl e)
      · have := rd_block (h.r.each r hr) hne a ha; omega
    · exact h.boff r hr hne a ha (.inr e)
end
end Go.Proofs.YtddnleofflobhaaGreatDoor

set_option linter.unusedVariables false
set_option maxRecDepth 100000
namespace Go.Proofs.YtddnleofflobhaaGreatDoor
open Go.RowKit

/-- Sectors of the first m records. -/
def gones (R : List Rc) (m : Nat) : Nat := ((R.take m).map fun r => secs r.b.length).sum
theorem gones_next {R : List Rc} {m : Nat} {r : Rc} (h : R[m]? = some r) : gones R (m + 1) = gones R m + secs r.b.length := by
  unfold gones
  rw [List.take_add_one, h]
  simp
def nextH (n : Nat) (L : Ls) (R : List Rc) (m : Nat) : Hd := ⟨L.h.tn + 1, L.h.fi + m, (L.h.fr + gones R m) % (n - 2), L.used - gones R m⟩

/-- The last stores of 'lay'. -/
def layW (w : World) (lb : Nat) (nh : Hd) (vt : Value) (u : Nat) : World :=
  ((((((w.setCell ⟨lb, 1, none⟩ (.int .u64 (nh.tn : Int))).setCell ⟨lb, 2, none⟩ (.int .u64 (nh.fi : Int))).setCell ⟨lb, 3, none⟩ (.int .i64 (nh.fr : Int))).setCell ⟨lb, 4, none⟩ (.int .i64 (nh.su : Int))).setCell ⟨lb, 5, none⟩ vt).setCell ⟨lb, 6, none⟩ (.int .i64 (u : Int))).setCell ⟨lb, 7, none⟩ (.bool true)
theorem layW_lk {w : World} {lb db : Nat} {rv : Value} {L : Ls} (h : Lk w lb db rv L) (nh : Hd) (vt : Value) (u : Nat) : Lk (layW w lb nh vt u) lb db vt { h := nh, used := u, ours := true, waits := L.waits, down := L.down } := by
  unfold Lk at h
  have h1 := set_at (k := 1) (.int .u64 (nh.tn : Int)) h
  simp only [List.setIfInBounds_toArray, List.set_cons_succ, List.set_cons_zero] at h1
  have h2 := set_at (k := 2) (.int .u64 (nh.fi : Int)) h1
  simp only [List.setIfInBounds_toArray, List.set_cons_succ, List.set_cons_zero] at h2
  have h3 := set_at (k := 3) (.int .i64 (nh.fr : Int)) h2
  simp only [List.setIfInBounds_toArray, List.set_cons_succ, List.set_cons_zero] at h3
  have h4 := set_at (k := 4) (.int .i64 (nh.su : Int)) h3
  simp only [List.setIfInBounds_toArray, List.set_cons_succ, List.set_cons_zero] at h4
  have h5 := set_at (k := 5) vt h4
  simp only [List.setIfInBounds_toArray, List.set_cons_succ, List.set_cons_zero] at h5
  have h6 := set_at (k := 6) (.int .i64 (u : Int)) h5
  simp only [List.setIfInBounds_toArray, List.set_cons_succ, List.set_cons_zero] at h6
  have h7 := set_at (k := 7) (.bool true) h6
  simp only [List.setIfInBounds_toArray, List.set_cons_succ, List.set_cons_zero] at h7
  exact h7
theorem layW_keep {X : Nat → Prop} {w0 w : World} {lb : Nat} (h : Keep X w0 w) (hx : X lb) (nh : Hd) (vt : Value) (u : Nat) : Keep X w0 (layW w lb nh vt u) :=
  (((((((h.trans (Keep.set w _ _ hx)).trans (Keep.set _ _ _ hx)).trans (Keep.set _ _ _ hx)).trans (Keep.set _ _ _ hx)).trans (Keep.set _ _ _ hx)).trans (Keep.set _ _ _ hx)).trans (Keep.set _ _ _ hx))
theorem lay_end {base : Nat} {w6 w7 : World} {lb db sb n : Nat} {vw rv vt : Value} {S : List (List UInt8)} {Q : List Wr} {L : Ls} {R : List Rc} {j : Nat} (h : Lg base w6 lb db sb n vw rv S Q L R) (hr : Rof w7 vt (R.drop j)) (hk : Keep (fun k => blk rv = some k) w6 w7) (hv : ∀ k, blk vt = some k → blk rv = some k) (nh : Hd) (u : Nat) :
    Lg base (layW w7 lb nh vt u) lb db sb n vw vt S Q { h := nh, used := u, ours := true, waits := L.waits, down := L.down } (R.drop j) ∧ Gfr db sb lb vw vw rv vt w6 (layW w7 lb nh vt u) := by
  have hl7 : Lk w7 lb db rv L := h.l.kept hk (fun e => h.roff lb e (.inl rfl))
  have hkX : Keep (fun k => k = lb ∨ blk rv = some k) w6 (layW w7 lb nh vt u) := layW_keep (hk.mono (fun _ _ e => .inr e)) (.inl rfl) nh vt u
  have hkL : Keep (fun k => k = lb) w7 (layW w7 lb nh vt u) := layW_keep (X := fun k => k = lb) (Keep.refl _ _) rfl nh vt u
  refine ⟨⟨h.d.kept hkX (fun k hk e => ?_), layW_lk hl7 nh vt u, h.nlb, hr.kept hkL (fun k hk e => h.roff k (hv k hk) (.inl e)) (fun r hm hne a ha e => ?_), fun k hk e => h.roff k (hv k hk) e, fun r hm hne a ha e => ?_, ⟨h.lo.1, fun k hk => h.lo.2 k (hv k hk)⟩⟩, hkX.mono (fun k _ e => ?_), fun k hk => .inl ?_⟩
  · rcases e with e | e
    · exact h.nlb (by rw [← e]; exact hk)
    · exact h.roff k e (.inr hk)
  · exact h.boff r (List.mem_of_mem_drop hm) hne a ha (.inl (.inl e))
  · refine h.boff r (List.mem_of_mem_drop hm) hne a ha ?_
    rcases e with e | e
    · exact .inl e
    · exact .inr (hv _ e)
  · rcases e with e | e
    · exact .inl (.inl e)
    · exact .inr e
  · rcases hk with e | e
    · exact .inl e
    · exact .inr (hv _ e)

section
variable {base : Nat} {w w' : World} {lb db sb n : Nat} {vw rv vw' rv' : Value} {S S' : List (List UInt8)} {Q Q' : List Wr} {L L' : Ls} {R R' : List Rc}

set_option maxHeartbeats 16000000 in
theorem lay_ok (h : Lg base w lb db sb n vw rv S Q L R) (m : Nat) (hm : m ≤ R.length) (hR9 : R.length ≤ 1000000) (hn : 3 ≤ n) (hg : gones R m ≤ L.used) (hu : L.used ≤ n - 2) (hk : L.h.Ok) (ht : L.h.tn + 1 < 18446744073709551616) (hf : L.h.fi + m < 18446744073709551616) (hrl : ∀ r ∈ R, r.b.length ≤ 32768) (hgm : ∀ j, j ≤ m → gones R j ≤ 65536) :
    Calls Tryz.prog 130 #[.pointer (some ⟨lb, 0, none⟩), .int .i64 (m : Int)] w (fun e w' => e = .returned .nilIface ∧ ∃ vw' rv', Lg base w' lb db sb n vw' rv' (S.set ((L.h.tn + 1) % 2) (hSec (nextH n L R m))) [] { h := nextH n L R m, used := L.used - gones R m, ours := true, waits := 0, down := L.down } (R.drop m) ∧ Gfr db sb lb vw vw' rv rv' w w') := by
  have CF := hid (lflush_ok h.l h.d h.nlb)
  have H := hid h
  clear h
  go_enter Tryz.func130, Tryz.ntmps130
  go_wp2_with (first | (go_at_call 135; refine CF.out.mono ?_))
  rintro e w2 ⟨rfl, vw2, hD2, hL2, hn2, hF2⟩
  obtain ⟨hG2, hfr2⟩ := H.out.lfr hD2 hL2 hn2 hF2
  obtain ⟨ao, c, vt, w9, ⟨hrv, hmc⟩, hs1, -, hs2, -⟩ := hG2.r.cut m hm (fun r hr hne a ha e => hG2.boff r hr hne a ha (.inr e))
  subst hrv
  have hs1' := fun W => hs1 .i64 W
  have hlen := fun W => run_len_slice (P := Tryz.prog) W 60 3 ao m c Tryz.underlying60
  obtain ⟨c0, c1, c2, c3, c4, c5, c6, c7, c8, c9⟩ := hL2.cells
  have HG2 := hid hG2
  have HFR2 := hid hfr2
  clear hD2 hL2 hn2 hF2 hG2 hfr2 hs2 hs1
  go_wp2_with fail
  go_loop [6, 24] (fun g i => ∃ j : Nat, j ≤ m ∧ i = .int .i64 (j : Int) ∧ g = .int .i64 (gones R j : Int)) (fun _ i => m - (intOf i).toNat)
  case atStart => exact ⟨0, by omega, rfl, rfl⟩
  case round =>
    obtain ⟨j, hj, rfl, rfl⟩ := hrel
    by_cases hlt : j < m
    · have hv := List.getElem?_eq_getElem (show j < R.length by omega)
      generalize R[j]'_ = r at *
      obtain ⟨g, o, rfl, hc⟩ := HG2.out.r.get hv
      have hrl9 := hrl r (List.mem_of_getElem? hv)
      have CS := hid (fun W => sectors_any W r.a r.b.length r.c (by omega))
      have hgn := gones_next hv
      have hg9 := hgm (j + 1) (by omega)
      have hw : IntKind.i64.wrap ((gones R j : Int) + (secs r.b.length : Int)) = ((gones R (j + 1) : Nat) : Int) := by rw [hgn, IntKind.wrap_i64]; rw [hgn] at hg9; omega
      have hjI : (j : Int) < (m : Int) := by omega
      have hjc : (j : Int) < (c : Int) := by omega
      unfold rcv at hc
      clear hv hgn hg9 hrl9
      go_wp2_with (first | (go_at_call 76; refine (CS.out _).mono ?_; rintro e w5 ⟨rfl, rfl⟩))
      go_round
      case rel => exact ⟨j + 1, by omega, by go_num, rfl⟩
      case measure => first | (simp [intOf]; done) | (simp [intOf]; omega)
    · obtain rfl : j = m := by omega
      clear c0 c1 c2 c3 c4 c5 c6 c7 c8 c9
      obtain ⟨c0, c1, c2, c3, c4, c5, c6, c7, c8, c9⟩ := HG2.out.l.cells
      have CR0 : ∀ W, Below w2.heap.size w2 W → Calls Tryz.prog 117 #[.pointer (some ⟨lb, 0, none⟩)] W (fun e w' => e = .returned (.int .i64 ((n - 2 : Nat) : Int)) ∧ w' = W) := fun W hW => ring_any (HG2.out.l.old hW) (HG2.out.d.old hW)
      have HFA : Hid (∀ W, Below w2.heap.size w2 W → Hid (Below w2.heap.size w2 W) ∧ W.cell? ⟨lb, 1, none⟩ = some (.int .u64 (L.h.tn : Int)) ∧ W.cell? ⟨lb, 2, none⟩ = some (.int .u64 (L.h.fi : Int)) ∧ W.cell? ⟨lb, 3, none⟩ = some (.int .i64 (L.h.fr : Int)) ∧ W.cell? ⟨lb, 6, none⟩ = some (.int .i64 (L.used : Int))) := fun W hW => by
        obtain ⟨-, q1, q2, q3, -, -, q6, -⟩ := (HG2.out.l.old hW).cells
        exact ⟨hW, q1, q2, q3, q6⟩
      obtain ⟨rg, hrg⟩ : ∃ rg, rg = n - 2 := ⟨_, rfl⟩
      have hD9 := HG2.out.d.few.2.1
      have hfr := hk.fr
      have hgj := hgm j (Nat.le_refl _)
      have hw1 : IntKind.u64.wrap ((L.h.tn : Int) + 1) = ((L.h.tn + 1 : Nat) : Int) := by rw [wrap_u64]; omega
      have hw2 : IntKind.u64.wrap (j : Int) = (j : Int) := by rw [wrap_u64]; omega
      have hw3 : IntKind.u64.wrap ((L.h.fi : Int) + (j : Int)) = ((L.h.fi + j : Nat) : Int) := by rw [wrap_u64]; omega
      have hw4 : IntKind.i64.wrap ((L.h.fr : Int) + (gones R j : Int)) = ((L.h.fr + gones R j : Nat) : Int) := by rw [IntKind.wrap_i64]; omega
      have hw5 : (((L.h.fr + gones R j : Nat) : Int)).tmod (rg : Int) = (((L.h.fr + gones R j) % rg : Nat) : Int) := rfl
      have hlt9 : (L.h.fr + gones R j) % rg < rg := Nat.mod_lt _ (by omega)
      have hw6 : IntKind.i64.wrap (((L.h.fr + gones R j) % rg : Nat) : Int) = (((L.h.fr + gones R j) % rg : Nat) : Int) := by rw [IntKind.wrap_i64]; omega
      have hw7 : IntKind.i64.wrap ((L.used : Int) - (gones R j : Int)) = ((L.used - gones R j : Nat) : Int) := by rw [IntKind.wrap_i64]; omega
      have hrg0 : ¬ ((rg : Int) = 0) := by omega
      have hrgb : ((rg : Int) == 0) = false := by simp; omega
      have hrgz : ¬ rg = 0 := by omega
      have hw5' : ((L.h.fr : Int) + (gones R j : Int)).tmod (rg : Int) = (((L.h.fr + gones R j) % rg : Nat) : Int) := rfl
      have HRG := hid hrg
      rw [← hrg] at CR0
      have CR := hid CR0
      clear hrg hgj hfr hD9 hgm hrl CR0
      go_upto_region 10 with fail
      go_cut [9] from 33 to 63 (fun v wx => ∃ hb : Nat, v = .pointer (some ⟨hb, 0, none⟩) ∧ Hid (w2.heap.size ≤ hb) ∧ wx.heap[hb]? = some (.cells #[.int .u64 ((L.h.tn + 1 : Nat) : Int), .int .u64 ((L.h.fi + j : Nat) : Int), .int .i64 (((L.h.fr + gones R j) % rg : Nat) : Int), .int .i64 ((L.used - gones R j : Nat) : Int)] 89 (0, 0)) ∧ Hid (Below w2.heap.size w2 wx))
      case first =>
        go_region_held3 (fun W => Hid (Below w2.heap.size w2 W) ∧ W.cell? ⟨lb, 1, none⟩ = some (.int .u64 (L.h.tn : Int)) ∧ W.cell? ⟨lb, 2, none⟩ = some (.int .u64 (L.h.fi : Int)) ∧ W.cell? ⟨lb, 3, none⟩ = some (.int .i64 (L.h.fr : Int)) ∧ W.cell? ⟨lb, 6, none⟩ = some (.int .i64 (L.used : Int)))
          (first | (go_split_ands; first | exact HFA.out _ ((Below.refl _ _).drew) | assumption | exact HFA.out _ ((by assumption : Hid (Below _ _ _)).out.alloc (by assumption : Hid (Below _ _ _)).out.size _) | exact HFA.out _ (((Below.refl _ _).alloc (Nat.le_refl _) _).drew) | exact HFA.out _ (((Below.refl _ _).drew).alloc (Nat.le_refl _) _) | exact HFA.out _ (below_set4 (by assumption : Hid (Below _ _ _)).out (Nat.le_refl _) _ _ _ _)) | go_keep)
          (first | (go_at_call 117; go_split_ands; with_reducible refine (CR.out _ (by assumption : Hid (Below _ _ _)).out).mono ?_; intro e w3 hh3; obtain ⟨rfl, rfl⟩ := hh3))
        all_goals (go_wp2_with fail; go_meet)
        all_goals (refine ⟨w2.heap.size, rfl, Nat.le_refl _, ?_, ?_⟩ <;> first | (push_cast; exact heap_alloc_new _ _) | exact ((Below.refl _ _).alloc (Nat.le_refl _) _).drew | exact ((Below.refl _ _).drew).alloc (Nat.le_refl _) _ | exact (Below.refl _ _).alloc (Nat.le_refl _) _)
      case rest =>
        obtain ⟨hb, rfl, HB1, hb2, HB2⟩ := hcut
        obtain ⟨t, ht9⟩ : ∃ t, t = L.h.tn + 1 := ⟨_, rfl⟩
        obtain ⟨f, hf9⟩ : ∃ f, f = L.h.fi + j := ⟨_, rfl⟩
        obtain ⟨r, hr9⟩ : ∃ r, r = (L.h.fr + gones R j) % rg := ⟨_, rfl⟩
        obtain ⟨u, hu9⟩ : ∃ u, u = L.used - gones R j := ⟨_, rfl⟩
        obtain ⟨k, hk9⟩ : ∃ k, k = t % 2 := ⟨_, rfl⟩
        rw [← ht9, ← hf9, ← hr9, ← hu9] at hb2
        have hD9 := HG2.out.d.few
        have hnh : nextH n L R j = ⟨t, f, r, u⟩ := by unfold nextH; rw [ht9, hf9, hr9, hu9, HRG.out]
        have HNH := hid hnh
        have HUU := hid hu9
        have HKK : Hid ((L.h.tn + 1) % 2 = k) := by
          show (L.h.tn + 1) % 2 = k
          rw [hk9, ht9]
        have hok : (Hd.mk t f r u).Ok := by
          have := HRG.out
          exact ⟨by show t < _; omega, by show f < _; omega, by show r ≤ _; omega, by show u ≤ _; omega⟩
        have hsk : S[k]? = some (S[k]'(by omega)) := List.getElem?_eq_getElem _
        generalize S[k]'_ = s0 at hsk
        have HHB : Hid (¬ GL db sb vw2 lb (.slice ao R.length c) hb) := fun e => by
          have := (HG2.out.lt hb e).2
          have := HB1.out
          omega
        have HL := hid (HG2.out.old HB2.out)
        have HCC : Hid (∀ W, Keep (GL db sb vw2 lb (.slice ao R.length c)) wc W → W.heap[hb]? = some (.cells #[.int .u64 (t : Int), .int .u64 (f : Int), .int .i64 (r : Int), .int .i64 (u : Int)] 89 (0, 0))) := fun W hW => (hW.block hb (lt_of_block hb2) HHB.out).trans hb2
        have CS : Hid (∀ W, Below wc.heap.size wc W → Calls Tryz.prog 142 #[.agg #[.int .u64 (t : Int), .int .u64 (f : Int), .int .i64 (r : Int), .int .i64 (u : Int)]] W (fun e w' => ∃ xo xc, e = .returned (.slice xo 64 xc) ∧ Hid (Rd w' (.slice xo 64 xc) (hSec ⟨t, f, r, u⟩)) ∧ Hid (Below wc.heap.size wc w') ∧ w'.cell? ⟨hb, 0, none⟩ = some (.int .u64 (t : Int)) ∧ w'.cell? ⟨hb, 1, none⟩ = some (.int .u64 (f : Int)) ∧ w'.cell? ⟨hb, 2, none⟩ = some (.int .i64 (r : Int)) ∧ w'.cell? ⟨hb, 3, none⟩ = some (.int .i64 (u : Int)))) := fun W hW =>
          (hsector_any W ⟨t, f, r, u⟩ hok).mono (by
            rintro e w' ⟨x, rfl, hx, hb4⟩
            obtain ⟨xo, xc, rfl⟩ := own_form hx
            have hBB : Below wc.heap.size wc w' := hW.trans (hb4.mono hW.size)
            have hr := Rd.own hx
            rw [hSec_len] at hr ⊢
            have hq := HCC.out w' (Keep.of_below hBB)
            refine ⟨xo, xc, rfl, hr, hBB, ?_, ?_, ?_, ?_⟩ <;> simp [World.cell?, hq])
        have CW : Hid (∀ W xo xc, Below wc.heap.size wc W → Rd W (.slice xo 64 xc) (hSec ⟨t, f, r, u⟩) → Calls Tryz.prog 133 #[.pointer (some ⟨lb, 0, none⟩), .int .i64 (k : Int), .slice xo 64 xc] W (fun e w' => e = .returned .nilIface ∧ ∃ vw3, Hid (Lg base w' lb db sb n vw3 (.slice ao R.length c) (S.set k (hSec ⟨t, f, r, u⟩)) [⟨k, s0, hSec ⟨t, f, r, u⟩⟩] { h := L.h, used := L.used, ours := L.ours, waits := 1, down := L.down } R) ∧ Hid (Gfr db sb lb vw2 vw3 (.slice ao R.length c) (.slice ao R.length c) wc w'))) := fun W xo xc hW hx => by
          have hL := HL.out.old hW
          exact (lwrite_ok hL.l hL.d hL.nlb _ (hSec ⟨t, f, r, u⟩) k s0 hsk (by omega) hx (hSec_len _) (by simp)).mono (by
            rintro e w' ⟨rfl, vw3, q1, q2, q3, q4⟩
            obtain ⟨q5, q6⟩ := hL.lfr q1 q2 q3 q4
            exact ⟨rfl, vw3, q5, (Gfr.of_below hW).trans q6⟩)
        obtain ⟨p0, p1, p2, p3, -⟩ := four_cells hb2
        have hm1 : ((t : Int)).tmod 2 = (k : Int) := by rw [hk9]; rfl
        have hm2 : (t : Int) % 2 = (k : Int) := by rw [hk9]; rfl
        have hm3 : IntKind.u64.wrap (k : Int) = (k : Int) := by rw [wrap_u64]; omega
        have hm4 : IntKind.i64.wrap (k : Int) = (k : Int) := by rw [IntKind.wrap_i64]; omega
        clear HFA CR HRG c0 c1 c2 c3 c4 c5 c6 c7 c8 c9 hrgz hw5' hw1 hw2 hw3 hw4 hw5 hw6 hw7 hrg0 hrgb hok hsk hnh ht9 hf9 hr9 hu9 hk9 hb2 hlt9
        go_upto_region 11 with fail
        go_cut [10] from 64 to 71 (fun v wx => v = .nilIface ∧ ∃ vw3, Hid (Lg base wx lb db sb n vw3 (.slice ao R.length c) (S.set k (hSec ⟨t, f, r, u⟩)) [⟨k, s0, hSec ⟨t, f, r, u⟩⟩] { h := L.h, used := L.used, ours := L.ours, waits := 1, down := L.down } R) ∧ Hid (Gfr db sb lb vw2 vw3 (.slice ao R.length c) (.slice ao R.length c) wc wx))
        case first =>
          go_region_with (first | (go_at_call 142; refine (CS.out _ ((Below.refl _ _).drew)).mono ?_; rintro e w4 ⟨xo, xc, rfl, hx, hb4, z0, z1, z2, z3⟩) | (go_at_call 133; refine (CW.out _ _ _ (by assumption : Hid (Below _ _ _)).out (by assumption : Hid (Rd _ _ _)).out).mono ?_; rintro e w5 ⟨rfl, vw3, hL5, hF5⟩))
          all_goals (go_wp2_with fail; go_meet)
          all_goals exact ⟨rfl, vw3, hL5, hF5⟩
        case rest =>
          obtain ⟨rfl, vw3, HL3, HF3⟩ := hcut
          clear p0 p1 p2 p3 hm1 hm2 hm3 hm4 CS CW
          have HG3 : Hid (Gfr db sb lb vw vw3 (.slice ao R.length c) (.slice ao R.length c) w wc) := (HFR2.out.trans (Gfr.of_below HB2.out)).trans HF3.out
          have HC3 := hid (HCC.out _ HF3.out.keep)
          have HN3 : Hid (¬ GL db sb vw3 lb (.slice ao R.length c) hb) := fun e => (HF3.out.new hb e).elim HHB.out (fun e => by
            have := lt_of_block (HCC.out _ (Keep.refl _ _))
            omega)
          have CF3 := hid (lflush_ok HL3.out.l HL3.out.d HL3.out.nlb)
          clear HCC HHB HL HB1 HB2 HF3 HG2 HFR2 H CF
          go_upto_region 17 with (first | (go_at_call 135; refine CF3.out.mono ?_; rintro e w6 ⟨rfl, vw6, hD6, hL6, hn6, hF6⟩))
          obtain ⟨hG6, hfr6⟩ := HL3.out.lfr hD6 hL6 hn6 hF6
          have HC6 := hid ((hfr6.keep.block hb (lt_of_block HC3.out) HN3.out).trans HC3.out)
          have HG7 := hid (HG3.out.trans hfr6)
          have HN6 : Hid (¬ GL db sb vw6 lb (.slice ao R.length c) hb) := fun e => (hfr6.new hb e).elim HN3.out (fun e => by
            have := lt_of_block HC3.out
            omega)
          obtain ⟨ao2, c2, vt6, w7, ⟨hrv, hmc2⟩, hs1, hcl, hs2, hR7, hk7, hv7⟩ := hG6.r.cut j hm (fun r hr hne a ha e => hG6.boff r hr hne a ha (.inr e))
          simp only [Value.slice.injEq, true_and] at hrv
          obtain ⟨rfl, rfl⟩ := hrv
          have hs1' := fun W => hs1 .i64 W
          have hcl' := fun ty => hcl ty
          obtain ⟨c0, c1, c2, c3, c4, c5, c6, c7, c8, c9⟩ := hG6.l.cells
          obtain ⟨vo, vq, vc, rfl⟩ : ∃ vo vq vc, vt6 = .slice vo vq vc := by
            obtain ⟨vo, vc, e, -⟩ := hR7.form
            exact ⟨vo, _, vc, e⟩
          have HG6 := hid hG6
          have HR7 := hid hR7
          have HK7 := hid hk7
          have HV7 := hid hv7
          have hL7 : Lk w7 lb db (.slice ao R.length c) { h := L.h, used := L.used, ours := L.ours, waits := 0, down := L.down } := hG6.l.kept hk7 (fun e => hG6.roff lb e (.inl rfl))
          have hx7 := (hk7.block hb (lt_of_block HC6.out) (fun e => HN6.out (.inr e))).trans HC6.out
          have hneq : hb ≠ lb := fun e => HN6.out (by rw [e]; exact .inl (.inl rfl))
          clear hD6 hL6 hn6 hF6 hG6 hfr6 hR7 hk7 hv7 hs1
          go_upto_region 18 with fail
          clear c0 c1 c2 c3 c4 c5 c6 c7 c8 c9
          obtain ⟨c0, c1, c2, c3, c4, c5, c6, c7, c8, c9⟩ := hL7.cells
          have f1 := hL7.soft 1
          have f2 := hL7.soft 2
          have f3 := hL7.soft 3
          have f4 := hL7.soft 4
          have f5 := hL7.soft 5
          have f6 := hL7.soft 6
          have f7 := hL7.soft 7
          obtain ⟨p0, p1, p2, p3, -⟩ := four_cells hx7
          clear hL7 hx7
          go_region
          go_wp2_with fail
          go_ret
          obtain ⟨q1, q2⟩ := lay_end HG6.out HR7.out HK7.out HV7.out ⟨t, f, r, u⟩ u
          refine ⟨rfl, vw6, .slice vo vq vc, ?_, ?_⟩
          · rw [HKK.out, HNH.out, ← HUU.out]
            exact q1.old ((Below.refl _ _).drew)
          · exact (HG7.out.trans q2).trans (Gfr.of_below ((Below.refl _ _).drew))
end
end Go.Proofs.YtddnleofflobhaaGreatDoor

set_option linter.unusedVariables false
set_option maxRecDepth 100000
namespace Go.Proofs.YtddnleofflobhaaGreatDoor
open Go.RowKit
section
variable {base : Nat} {w w' : World} {lb db sb n : Nat} {vw rv : Value} {S : List (List UInt8)} {Q : List Wr} {L : Ls} {R : List Rc}

/-- What sync and Sync come to. -/
def SyncP (base : Nat) (lb db sb n : Nat) (vw rv : Value) (S : List (List UInt8)) (L : Ls) (R : List Rc) (w w' : World) : Prop :=
  ∃ vw', Lg base w' lb db sb n vw' rv S [] { h := L.h, used := L.used, ours := L.ours, waits := 0, down := L.down } R ∧ Gfr db sb lb vw vw' rv rv w w'

theorem Below.drewN9 (w : World) (m : Nat) : Below w.heap.size w (w.drewN m) := ⟨rfl, rfl, rfl, Nat.le_refl _, fun _ _ => rfl⟩

theorem sync_in (h : Lg base w lb db sb n vw rv S Q L R) (hw : L.waits = Q.length) (hd : L.down = false) : Calls Tryz.prog 120 #[.pointer (some ⟨lb, 0, none⟩)] w (fun e w' => e = .returned .nilIface ∧ SyncP base lb db sb n vw rv S L R w w') := by
  have CR := hid (ready_ok h.l h.d hw hd)
  have H := hid h
  clear h
  go_enter Tryz.func120, Tryz.ntmps120
  go_wp2_with (first | (go_at_call 116; refine CR.out.mono ?_; rintro e w2 ⟨rfl, m, rfl⟩))
  have hb := Below.drewN9 w m
  have H2 := hid (H.out.old hb)
  have HB := hid hb
  clear hb
  generalize w.drewN m = w2 at *
  have CF := hid (lflush_ok H2.out.l H2.out.d H2.out.nlb)
  go_wp2_with (first | (go_at_call 135; refine CF.out.mono ?_; rintro e w6 ⟨rfl, vw6, hD6, hL6, hn6, hF6⟩))
  obtain ⟨hG6, hfr6⟩ := H2.out.lfr hD6 hL6 hn6 hF6
  go_ret
  exact ⟨rfl, vw6, hG6, (Gfr.of_below HB.out).trans hfr6⟩

theorem sync_ok (h : Lg base w lb db sb n vw rv S Q L R) (hw : L.waits = Q.length) (hd : L.down = false) : Calls Tryz.prog 104 #[.pointer (some ⟨lb, 0, none⟩)] w (fun e w' => e = .returned (.int .i64 0) ∧ SyncP base lb db sb n vw rv S L R w w') := by
  have CN := hid (none_any h.l)
  have CS := hid (sync_in h hw hd)
  clear h
  go_enter Tryz.func104, Tryz.ntmps104
  go_wp2_with (first
    | (go_at_call 113; refine CN.out.mono ?_; rintro e w2 ⟨rfl, rfl⟩)
    | (go_at_call 120; refine CS.out.mono ?_; rintro e w3 ⟨rfl, hp⟩)
    | (go_at_call 47; refine (told_ok lb _).mono ?_; rintro e w4 ⟨rfl, rfl⟩))
  go_ret
  exact ⟨rfl, hp⟩

end
end Go.Proofs.YtddnleofflobhaaGreatDoor

