import Derived.Test.YtpdmocdfnakggaaDoorRows
import Derived.WalkKit
import Derived.WalkSpells
import Derived.WalkLawsBesides
import Derived.Laws.AppendOwnNone
import Derived.Deep.Slices
import GoSem.Op.String
import Derived.Lib.Bytealg
import Derived.BigQuiet
import Derived.Deep.QuietTactic
import Derived.Deep.AppendLies
import Derived.Deep.RegionWith
import Derived.Deep.CutRange
import Derived.Deep.RegionHeld3
import Derived.Test.YtpdmocdfnakggaaDoorProg
import Derived.LaidEql
import Derived.Stop.Asserts
import Derived.RowKitTokens
import Derived.Lib.Bytes
import Derived.Deep.OwnRows
import Derived.OwnWalk
import Derived.ProofKit
import Derived.Lib.AppendZeros
import Derived.Test.YtpdmocdfnakggaaDoorZR1
import Derived.Test.YtpdmocdfnakggaaDoorZR2
set_option linter.unusedVariables false
set_option linter.unusedSimpArgs false
namespace Go.Proofs.YtpdmocdfnakggaaDoor
open Go.RowKit

/-- Why there are no bytes (9: one is not right; 10: too many), or 0. -/
def encE (l : List Vl) : Int := if ∀ v ∈ l, okV v then (if 16 < l.length then 10 else 0) else 9
/-- The bytes, where there are. -/
def encO (l : List Vl) : List UInt8 := if encE l = 0 then encL l else []

theorem encE_bad {l : List Vl} {k : Nat} {v : Vl} (h : l[k]? = some v) (hv : ¬ okV v) : encE l = 9 ∧ encO l = [] := by
  have e : encE l = 9 := by
    unfold encE
    rw [if_neg]
    intro ha
    exact hv (ha v (List.mem_of_getElem? h))
  exact ⟨e, by unfold encO; rw [e]; rfl⟩

theorem encE_long {l : List Vl} (h : ∀ v ∈ l, okV v) (hl : 16 < l.length) : encE l = 10 ∧ encO l = [] := by
  have e : encE l = 10 := by unfold encE; rw [if_pos h, if_pos hl]
  exact ⟨e, by unfold encO; rw [e]; rfl⟩

theorem encE_ok {l : List Vl} (h : ∀ v ∈ l, okV v) (hl : ¬ 16 < l.length) : encE l = 0 ∧ encO l = encL l := by
  have e : encE l = 0 := by unfold encE; rw [if_pos h, if_neg hl]
  exact ⟨e, by unfold encO; rw [e]; rfl⟩

theorem all_of {l : List Vl} {p : Vl → Prop} (h : ∀ (j : Nat) (v : Vl), l[j]? = some v → p v) : ∀ v ∈ l, p v := fun v hv => by
  obtain ⟨j, hj, e⟩ := List.mem_iff_getElem.1 hv
  exact h j v (by rw [List.getElem?_eq_getElem hj, e])

theorem encL_take {l : List Vl} {k : Nat} {v : Vl} (h : l[k]? = some v) : encL (l.take (k + 1)) = encL (l.take k) ++ valB v := by
  rw [List.take_add_one, h]
  show encL (l.take k ++ [v]) = _
  rw [encL_app]
  simp [encL]

theorem alloc_then {w wr w2 : World} {o : Obj} (h : Below w.heap.size w wr) (g : Below (wr.alloc o).heap.size (wr.alloc o) w2) : Below w.heap.size w w2 :=
  (h.alloc h.size o).trans (g.mono (h.alloc h.size o).size)

/-- What Enc gives. -/
def EncIs (l : List Vl) (w : World) (e : Ending) (w' : World) : Prop :=
  ∃ y, e = .returned (.tuple #[y, .int .i64 (encE l)]) ∧ w'.ownsRow w.heap.size 5 1 y (encO l).length ((encO l).map bv) ∧ Below w.heap.size w w'

theorem EncIs.elim {l : List Vl} {w : World} {e : Ending} {w' : World} (h : EncIs l w e w') : ∃ (ao : Option Addr) (c : Nat), e = .returned (.tuple #[.slice ao (encO l).length c, .int .i64 (encE l)]) ∧ w'.ownsRow w.heap.size 5 1 (.slice ao (encO l).length c) (encO l).length ((encO l).map bv) ∧ Below w.heap.size w w' := by
  obtain ⟨y, rfl, h1, h2⟩ := h
  obtain ⟨ao, c, rfl, _⟩ := Rd.own h1
  exact ⟨ao, c, rfl, h1, h2⟩

set_option maxHeartbeats 2000000 in
set_option maxRecDepth 100000 in
theorem enc_any (x : Value) (l : List Vl) (w : World) (hx : Vs w x l) (hin : ∀ v ∈ l, inV v) (hl : l.length ≤ 140737488355328) :
    Calls Tryd.prog 56 #[x] w (EncIs l w) := by
  obtain ⟨ao, c, rfl, -⟩ := hx.form
  have HX := hid hx
  have HI := hid hin
  clear hx hin
  go_enter Tryd.func56, Tryd.ntmps56
  go_wp2_with fail
  go_loopw [11] (fun i wr => ∃ k, k ≤ l.length ∧ i = .int .i64 (k : Int) ∧ (∀ j v, j < k → l[j]? = some v → okV v) ∧ Below w.heap.size w wr) (fun i _ => l.length - (intOf i).toNat)
  case atStart => exact ⟨0, by omega, rfl, fun j v h => by omega, Below.refl _ _⟩
  case round =>
    obtain ⟨k, hk, rfl, hok, hb⟩ := hrel
    have HO := hid hok
    have HB := hid hb
    clear hok hb
    by_cases hlt : k < l.length
    · have hv := List.getElem?_eq_getElem hlt
      generalize l[k] = v at *
      obtain ⟨b, off, rfl, d1, d2, d3⟩ := (HX.out.old HB.out).get hv
      have HV := hid hv
      clear hv
      have C := fun W => right_any v W
      unfold sv at C
      by_cases ho : okV v
      · rw [decide_eq_true ho] at C
        go_wp2_with (first | (go_at_call 69; refine (C _).mono ?_; rintro e w2 ⟨rfl, hb2⟩))
        have HB2 := hid (alloc_then HB.out hb2)
        clear hb2
        go_roundw
        case rel =>
          refine ⟨k + 1, by omega, by go_num, fun j u hj hu => ?_, HB2.out⟩
          by_cases hjk : j < k
          · exact HO.out j u hjk hu
          · obtain rfl : j = k := by omega
            rw [HV.out] at hu
            cases hu
            exact ho
        case measure => simp [intOf]; omega
      · have HE := hid (encE_bad HV.out ho)
        rw [decide_eq_false ho] at C
        go_wp2_with (first | (go_at_call 69; refine (C _).mono ?_; rintro e w2 ⟨rfl, hb2⟩))
        have HB2 := hid (alloc_then HB.out hb2)
        go_ret2
        obtain ⟨h1, h2⟩ := HE.out
        unfold EncIs
        rw [h1, h2]
        exact ⟨_, rfl, World.ownsRow_nil _ _ _ _, HB2.out⟩
    · have HA : Hid (∀ v ∈ l, okV v) := all_of (fun j v hj => HO.out j v (by have := (List.getElem?_eq_some_iff.1 hj).1; omega) hj)
      by_cases h16 : 16 < l.length
      · have HE := hid (encE_long HA.out h16)
        go_wp2_with fail
        go_ret2
        obtain ⟨h1, h2⟩ := HE.out
        unfold EncIs
        rw [h1, h2]
        exact ⟨_, rfl, World.ownsRow_nil _ _ _ _, HB.out⟩
      · have HE := hid (encE_ok HA.out h16)
        go_wp2_with fail
        go_loopw [6, 24] (fun y i wr => ∃ k, k ≤ l.length ∧ i = .int .i64 (k : Int) ∧ wr.ownsRow w.heap.size 5 1 y (encL (l.take k)).length ((encL (l.take k)).map bv) ∧ Below w.heap.size w wr) (fun _ i _ => l.length - (intOf i).toNat)
        case atStart => exact ⟨0, by omega, rfl, World.ownsRow_nil _ _ _ _, HB.out⟩
        case round =>
          obtain ⟨k2, hk2, rfl, hown, hb⟩ := hrel
          clear HB hlt
          have HO2 := hid hown
          have HB := hid hb
          clear hown hb
          by_cases hlt : k2 < l.length
          · have hv := List.getElem?_eq_getElem hlt
            have hmem := List.mem_of_getElem? hv
            generalize l[k2] = v at *
            have hok := HA.out v hmem
            have hin := HI.out v hmem
            obtain ⟨b, off, rfl, d1, d2, d3⟩ := (HX.out.old HB.out).get hv
            have hlen : (encL (l.take k2)).length ≤ 90000 := by
              have := encL_len (l := l.take k2) (fun u hu => HA.out u (List.mem_of_mem_take hu))
              rw [List.length_take] at this
              omega
            have HE2 := hid (encL_take hv)
            have HL := hid hlen
            clear hv hlen
            have ho := HO2.out.alloc (.cells #[.int .i64 v.k, .int .i64 v.i, .string ⟨v.s.toArray⟩] 44)
            have B1 := HB.out.alloc HB.out.size (.cells #[.int .i64 v.k, .int .i64 v.i, .string ⟨v.s.toArray⟩] 44)
            have C := put_any w.heap.size _ (encL (l.take k2)) v _ ho B1.size HL.out hok hin
            unfold sv at C
            have B1' := hid B1
            clear ho B1 hmem hok hin
            go_wp2_with (first | (go_at_call 70; refine C.mono ?_; rintro e w2 ⟨y2, rfl, q1, q2⟩))
            have Q1 := hid q1
            have Q2 := hid (B1'.out.trans q2)
            clear q1 q2
            go_roundw
            case rel => exact ⟨k2 + 1, by omega, by go_num, by rw [HE2.out]; exact Q1.out, Q2.out⟩
            case measure => simp [intOf]; omega
          · obtain rfl : k2 = l.length := by omega
            go_wp2_with fail
            go_ret2
            obtain ⟨h1, h2⟩ := HE.out
            unfold EncIs
            rw [h1, h2]
            have := HO2.out
            rw [List.take_length] at this
            exact ⟨_, rfl, this, HB.out⟩
end Go.Proofs.YtpdmocdfnakggaaDoor

namespace Go.Proofs.YtpdmocdfnakggaaDoor
open Go.RowKit

/-- A slice of one value that was laid out. -/
theorem Vs.one {w : World} {g : Nat} {v : Vl} {t : TypeId} (h : w.heap[g]? = some (.cells #[.int .i64 v.k, .int .i64 v.i, .string ⟨v.s.toArray⟩] t (0, 0))) : Vs w (.slice (some ⟨g, 0, none⟩) 1 1) [v] := by
  refine ⟨some ⟨g, 0, none⟩, 1, rfl, by simp, by unfold maxLen; simp, (fun h => by cases h), fun a ha => ?_⟩
  cases ha
  intro j u hu
  obtain ⟨d1, d2, d3⟩ := three_cells h
  rw [WideShapes.add_plain, Nat.zero_add]
  have e : cellsL [v] = [.int .i64 v.k, .int .i64 v.i, .string ⟨v.s.toArray⟩] := rfl
  rw [e] at hu
  match j, hu with
  | 0, hu => simp at hu; subst hu; exact d1
  | 1, hu => simp at hu; subst hu; exact d2
  | 2, hu => simp at hu; subst hu; exact d3
  | j + 3, hu => simp at hu

end Go.Proofs.YtpdmocdfnakggaaDoor

namespace Go.Proofs.YtpdmocdfnakggaaDoor
open Go.RowKit

set_option maxHeartbeats 1000000 in
set_option maxRecDepth 100000 in
theorem clone_any (w : World) (x : Value) (l : List UInt8) (h : Rd w x l) (hl : l.length ≤ 140737488355328) :
    Calls Tryd.prog 68 #[x] w (Gives 5 w l) := by
  obtain ⟨ao, c, rfl, h1, h2, h3, h4⟩ := h
  cases ao with
  | none =>
    have hc := h3 rfl
    obtain rfl : l = [] := List.eq_nil_of_length_eq_zero (by omega)
    subst hc
    have heq := fun W => Lib.run_eql_slice_nil (P := Tryd.prog) W 32 5 none 0 0 0 0 Tryd.underlying32
    go_enter Tryd.func68, Tryd.ntmps68
    go_wp2_with fail
    go_ret
    exact ⟨_, rfl, World.ownsRow_nil _ _ _ _, Below.refl _ _⟩
  | some a =>
    have HR : Hid (Rd w (.slice (some a) l.length c) l) := ⟨some a, c, rfl, h1, h2, h3, h4⟩
    have heq := fun W => Lib.run_eql_slice_nil (P := Tryd.prog) W 32 5 (some a) l.length c 0 0 Tryd.underlying32
    have hown : (w.alloc (.cells #[] 5)).ownsRow w.heap.size 5 1 (.slice (some ⟨w.heap.size, 0, none⟩) 0 0) 0 [] := World.ownsRow_made w #[] 0 (Nat.le_refl _) (by decide) rfl
    have HR2 := HR.out.alloc (.cells #[] 5)
    clear h3 h4
    go_enter Tryd.func68, Tryd.ntmps68
    go_wp2_with (first
      | (at_builtin; refine wp_app rfl _ _ 32 rfl w.heap.size 5 Tryd.underlying32 (by kernel_rfl) _ _ _ rfl hown _ l rfl HR2 ?c1 ?c2 ?_))
    case c1 => omega
    case c2 => simp
    intro v' w1 hown' hgrow
    have hb : Below w.heap.size w w1 := ((Below.refl _ _).alloc (Nat.le_refl _) _).grown hgrow (by simp) (fun k hk => by simp [Value.ownBlock] at hk; omega)
    clear hgrow hown HR2
    go_wp2
    go_ret
    exact ⟨_, rfl, by simpa using hown', hb⟩

theorem end_round {l : List UInt8} {k : Nat} (hk : k + 1 ≤ l.length) (h : endL (l.take (k + 1)) = endL l) : (l[k] = 255 → endL (l.take k) = endL l) ∧ (l[k] ≠ 255 → endL l = l.take k ++ [l[k] + 1]) := by
  have e : l.take (k + 1) = l.take k ++ [l[k]] := by
    rw [List.take_add_one, List.getElem?_eq_getElem (by omega)]; rfl
  rw [e] at h
  constructor
  · intro h1
    rw [h1, endL_ff] at h
    exact h
  · intro h1
    rw [endL_not _ _ h1] at h
    exact h.symm

theorem end_set {l : List UInt8} {k : Nat} {c : UInt8} (hk : k < l.length) : ((l.take (k + 1)).map bv).set k (bv c) = (l.take k ++ [c]).map bv := by
  have e : l.take (k + 1) = l.take k ++ [l[k]] := by
    rw [List.take_add_one, List.getElem?_eq_getElem (by omega)]; rfl
  have hl : (l.take k).length = k := by rw [List.length_take]; omega
  rw [e, List.map_append, List.map_append, List.set_append_right _ _ (by rw [List.length_map, hl]; exact Nat.le_refl _), List.length_map, hl, Nat.sub_self]
  rfl

set_option maxHeartbeats 2000000 in
set_option maxRecDepth 100000 in
theorem end_any (x : Value) (l : List UInt8) (w : World) (hx : Rd w x l) (hl : l.length ≤ 140737488355328) :
    Calls Tryd.prog 55 #[x] w (Gives 5 w (endL l)) := by
  have hlen := hx.len (P := Tryd.prog) 32 5
  by_cases hl0 : l = []
  · subst hl0
    obtain ⟨ao, c, rfl, -⟩ := hx
    go_enter Tryd.func55, Tryd.ntmps55
    go_wp2_with fail
    refine wp_loop_rounds 1 ?_
    rw [rounds_succ]
    go_wp2_with fail
    go_ret
    exact ⟨_, rfl, World.ownsRow_nil _ _ _ _, Below.refl _ _⟩
  have hpos : 0 < l.length := List.length_pos_iff.2 hl0
  obtain ⟨b, off, cp, rfl, h1, h2, hc⟩ := hx.at hpos
  unfold maxLen at h2
  have HX := hid hx
  have HC := hid hc
  clear hx hc
  go_enter Tryd.func55, Tryd.ntmps55
  go_wp2_with fail
  go_loop [3] (fun i => ∃ k : Nat, k ≤ l.length ∧ i = .int .i64 k ∧ endL (l.take k) = endL l) (fun i => (intOf i).toNat)
  case atStart => exact ⟨l.length, Nat.le_refl _, rfl, by rw [List.take_length]⟩
  case round =>
    obtain ⟨k, hk, rfl, he⟩ := hrel
    have HE := hid he
    clear he
    cases k with
    | zero =>
      have HN : Hid (endL l = []) := by rw [Hid, ← HE.out]; rfl
      go_wp2_with fail
      go_ret
      rw [HN.out]
      exact ⟨_, rfl, World.ownsRow_nil _ _ _ _, Below.refl _ _⟩
    | succ k =>
      have hck := HC.out k (by omega)
      have HR := hid (end_round hk HE.out)
      have HS := hid (fun c => end_set (l := l) (k := k) (c := c) (by omega))
      have hw : IntKind.i64.wrap (((k + 1 : Nat) : Int) - 1) = (k : Int) := by rw [IntKind.wrap_i64]; omega
      have e1 : ((k + 1 : Nat) : Int) - 1 = (k : Int) := by omega
      have HCK := hid (List.getElem?_eq_getElem (by omega) : l[k]? = some l[k])
      have hll : (l.take (k + 1)).length = k + 1 := by rw [List.length_take]; omega
      have HLL := hid hll
      clear hll
      generalize l[k] = c at *
      by_cases hff : c = 255
      · subst hff
        have HN := hid (HR.out.1 rfl)
        go_wp2_with fail
        go_round
        case rel => exact ⟨k, by omega, by go_num, HN.out⟩
        case measure => simp [intOf]
      · have hcn : ¬ (c.toNat : Int) = 255 := by
          intro h; apply hff; apply UInt8.toNat_inj.1; show c.toNat = 255; omega
        have HN := hid (HR.out.2 hff)
        have hc256 := UInt8.toNat_lt c
        have hbv : bv (c + 1) = .int .u8 ((c.toNat : Int) + 1) := by
          unfold bv
          rw [UInt8.toNat_add]
          show Value.int .u8 (((c.toNat + 1) % 256 : Nat) : Int) = _
          congr 1
          omega
        have HB := hid hbv
        clear hbv HR
        obtain ⟨ao2, c2, hs2, hr2, hb2⟩ := HX.out.head (P := Tryd.prog) 32 5 Tryd.underlying32 (by kernel_rfl) (k + 1) hk
        have HR2 := hid hr2
        have hs2' := fun W => hs2 .i64 W
        have e2 : ((k + 1 : Nat) : Int) = (k : Int) + 1 := by omega
        rw [e2] at hs2'
        clear hr2 hb2 hs2
        have C := fun W (h : Rd W (.slice ao2 (k + 1) c2) (l.take (k + 1))) => clone_any W _ _ h (by rw [List.length_take]; omega)
        go_wp2_with (first | (go_at_call 68; go_loud (refine (C _ HR2.out).mono ?_)))
        intro e w1 hgv
        obtain ⟨ao3, c3, rfl, o1, b1⟩ := hgv.elim
        rw [HLL.out] at o1 ⊢
        have B1 := hid b1
        generalize Value.slice ao3 (k + 1) c3 = v1 at o1 ⊢
        clear hgv b1 C hs2'
        obtain ⟨g, cap, rfl, hg, hgl⟩ := o1.form (by omega)
        have O1 := hid o1
        have hb1 : w1.cell? ⟨g, k, none⟩ = some (.int .u8 (c.toNat : Int)) := by
          rw [o1.cellAt k (by omega)]
          rw [List.getElem?_map, List.getElem?_take_of_lt (by omega)]
          rw [HCK.out]; rfl
        have hf1 := o1.frozenAt k
        have HST := hid (o1.stored k (bv (c + 1)))
        have HG : Hid (w.heap.size ≤ g) := hg
        have hck2 : ¬ ((c.toNat : Int) = 255) := hcn
        clear o1
        go_wp2_with fail
        go_ret
        obtain ⟨h3, h4⟩ := HST.out
        rw [HS.out] at h3
        have hel : (endL l).length = k + 1 := by rw [HN.out, List.length_append, List.length_take]; simp; omega
        rw [HB.out] at h3 h4
        refine ⟨_, rfl, ?_, B1.out.grown h4 B1.out.size (fun k hk => by cases hk; exact HG.out)⟩
        rw [hel, HN.out]
        exact h3

end Go.Proofs.YtpdmocdfnakggaaDoor

namespace Go.Proofs.YtpdmocdfnakggaaDoor
open Go.RowKit

theorem info_val : (Tryd.prog.info? 44).map (fun i => (i.zero, i.size, i.bytes)) = some (some (.agg #[.int .i64 0, .int .i64 0, .string ⟨#[]⟩]), 3, 32) := by kernel_rfl

end Go.Proofs.YtpdmocdfnakggaaDoor

set_option linter.unusedVariables false
set_option linter.unusedSimpArgs false
set_option maxRecDepth 100000
namespace Go.Proofs.YtpdmocdfnakggaaDoor
open Go.RowKit Go.Deep

structure Col where
  name : List UInt8
  kind : Int
  null : Bool
deriving DecidableEq
structure Tab where
  id : Int
  name : List UInt8
  cols : List Col
  key : List Int
deriving DecidableEq
structure Idx where
  id : Int
  table : Int
  name : List UInt8
  cols : List Int
  uniq : Bool
  state : Int
  bad : Bool
deriving DecidableEq
structure Cat where
  ver : Int
  nxt : Int
  tabs : List Tab
  idxs : List Idx
deriving DecidableEq

def okByte (n : Nat) : Bool := (decide (97 ≤ n) && decide (n ≤ 122)) || (decide (48 ≤ n) && decide (n ≤ 57)) || decide (n = 95)
def nameB (s : List UInt8) : Bool := s.all (fun c => okByte c.toNat) && decide (1 ≤ s.length) && decide (s.length ≤ 20)

/-- The rest of a list of places, behind those of 'p'. -/
def plcs (n : Int) : List Int → List Int → Bool
  | _, [] => true
  | p, z :: r => !(decide (z < 0) || decide (n ≤ z) || p.contains z) && plcs n (p ++ [z]) r
def placesB (l : List Int) (n : Int) : Bool := plcs n [] l && decide (1 ≤ l.length) && decide (l.length ≤ 6)

def colB (p : List Col) (c : Col) : Bool := nameB c.name && (decide (c.kind = 1) || decide (c.kind = 2)) && !(p.any fun d => decide (d.name = c.name))
def colsB : List Col → List Col → Bool
  | _, [] => true
  | p, c :: r => colB p c && colsB (p ++ [c]) r
def colAt (l : List Col) (z : Int) : Col := l.getD z.toNat ⟨[], 0, false⟩
def tabB (t : Tab) : Bool := nameB t.name && decide (1 ≤ t.cols.length) && decide (t.cols.length ≤ 6) && placesB t.key t.cols.length && colsB [] t.cols && t.key.all (fun z => !(colAt t.cols z).null)

/-- One table more, behind those of 'p'. -/
def tabNew (nxt : Int) (p : List Tab) (t : Tab) : Bool :=
  decide (1 ≤ t.id) && decide (t.id < nxt) && !((p.map (·.id)).contains t.id) && (match p.getLast? with | none => true | some q => decide (q.id < t.id)) && tabB t && !(p.any fun q => decide (q.name = t.name))
def tabsB (nxt : Int) : List Tab → List Tab → Bool
  | _, [] => true
  | p, t :: r => tabNew nxt p t && tabsB nxt (p ++ [t]) r

def byId (l : List Tab) (z : Int) : Option Tab := l.find? (fun t => decide (t.id = z))
def idxNew (C : Cat) (p : List Idx) (x : Idx) : Bool :=
  decide (1 ≤ x.id) && decide (x.id < C.nxt) && !((C.tabs.map (·.id) ++ p.map (·.id)).contains x.id) && (match p.getLast? with | none => true | some q => decide (q.id < x.id)) &&
  (match byId C.tabs x.table with | none => false | some t => nameB x.name && placesB x.cols t.cols.length) && decide (1 ≤ x.state) && decide (x.state ≤ 7) && !(p.any fun q => decide (q.name = x.name))
def idxsB (C : Cat) : List Idx → List Idx → Bool
  | _, [] => true
  | p, x :: r => idxNew C p x && idxsB C (p ++ [x]) r
def catB (C : Cat) : Bool := decide (0 ≤ C.ver) && decide (1 ≤ C.nxt) && decide (C.nxt ≤ 1073741824) && decide (C.tabs.length ≤ 6) && decide (C.idxs.length ≤ 10) && tabsB C.nxt [] C.tabs && idxsB C [] C.idxs

def i64 (z : Int) : Prop := -9223372036854775808 ≤ z ∧ z ≤ 9223372036854775807
def nmW (s : List UInt8) : Prop := s.length ≤ 140737488355328
def Tab.W (t : Tab) : Prop := i64 t.id ∧ nmW t.name ∧ (∀ c ∈ t.cols, nmW c.name ∧ i64 c.kind) ∧ (∀ z ∈ t.key, i64 z) ∧ t.cols.length ≤ 140737488355328 ∧ t.key.length ≤ 140737488355328
def Idx.W (x : Idx) : Prop := i64 x.id ∧ i64 x.table ∧ nmW x.name ∧ (∀ z ∈ x.cols, i64 z) ∧ i64 x.state ∧ x.cols.length ≤ 140737488355328
def Cat.W (C : Cat) : Prop := i64 C.ver ∧ i64 C.nxt ∧ (∀ t ∈ C.tabs, t.W) ∧ (∀ x ∈ C.idxs, x.W) ∧ C.tabs.length ≤ 140737488355328 ∧ C.idxs.length ≤ 140737488355328
def zRow (z : Int) : List Value := [.int .i64 z]
def colRow (c : Col) : List Value := [.string ⟨c.name.toArray⟩, .int .i64 c.kind, .bool c.null]

/-- The slice x reads as these numbers (all its memory, if there is some, in blocks of N). -/
def ZsN (N : Nat → Prop) (w : World) (x : Value) (l : List Int) : Prop := Rws 1 w x (l.map zRow) ∧ (l ≠ [] → ∀ k, blk x = some k → N k)
def ClsN (N : Nat → Prop) (w : World) (x : Value) (l : List Col) : Prop := Rws 3 w x (l.map colRow) ∧ (l ≠ [] → ∀ k, blk x = some k → N k)

def TabN (N : Nat → Prop) (w : World) (cs : List Value) (t : Tab) : Prop :=
  ∃ x y, cs = [.int .i64 t.id, .string ⟨t.name.toArray⟩, x, y] ∧ ClsN N w x t.cols ∧ ZsN N w y t.key ∧ x.oneCell' = true ∧ y.oneCell' = true
def IdxN (N : Nat → Prop) (w : World) (cs : List Value) (x : Idx) : Prop :=
  ∃ y, cs = [.int .i64 x.id, .int .i64 x.table, .string ⟨x.name.toArray⟩, y, .bool x.uniq, .int .i64 x.state, .bool x.bad] ∧ ZsN N w y x.cols ∧ y.oneCell' = true

/-- A list of structs, each of whose rows reads as its thing. -/
def LstN {α : Type} (R : World → List Value → α → Prop) (n : Nat) (N : Nat → Prop) (w : World) (x : Value) (l : List α) : Prop :=
  ∃ M : List (List Value), M.length = l.length ∧ Rws n w x M ∧ (∀ (i : Nat) r a, M[i]? = some r → l[i]? = some a → R w r a) ∧ (l ≠ [] → ∀ k, blk x = some k → N k)
def CatN (N : Nat → Prop) (w : World) (cs : List Value) (C : Cat) : Prop :=
  ∃ x y, cs = [.int .i64 C.ver, .int .i64 C.nxt, x, y] ∧ LstN (TabN N) 4 N w x C.tabs ∧ LstN (IdxN N) 7 N w y C.idxs ∧ x.oneCell' = true ∧ y.oneCell' = true

theorem ZsN.keep {N X : Nat → Prop} {w w' : World} {x : Value} {l : List Int} (h : ZsN N w x l) (hk : Keep X w w') (hx : ∀ k, N k → ¬ X k) : ZsN N w' x l :=
  ⟨h.1.keep hk (fun h0 k hb => hx k (h.2 (fun e => h0 (by rw [e]; rfl)) k hb)), h.2⟩
theorem ClsN.keep {N X : Nat → Prop} {w w' : World} {x : Value} {l : List Col} (h : ClsN N w x l) (hk : Keep X w w') (hx : ∀ k, N k → ¬ X k) : ClsN N w' x l :=
  ⟨h.1.keep hk (fun h0 k hb => hx k (h.2 (fun e => h0 (by rw [e]; rfl)) k hb)), h.2⟩
theorem TabN.keep {N X : Nat → Prop} {w w' : World} {cs : List Value} {t : Tab} (h : TabN N w cs t) (hk : Keep X w w') (hx : ∀ k, N k → ¬ X k) : TabN N w' cs t := by
  obtain ⟨x, y, h1, h2, h3, h4, h5⟩ := h
  exact ⟨x, y, h1, h2.keep hk hx, h3.keep hk hx, h4, h5⟩
theorem IdxN.keep {N X : Nat → Prop} {w w' : World} {cs : List Value} {t : Idx} (h : IdxN N w cs t) (hk : Keep X w w') (hx : ∀ k, N k → ¬ X k) : IdxN N w' cs t := by
  obtain ⟨y, h1, h2, h3⟩ := h
  exact ⟨y, h1, h2.keep hk hx, h3⟩
theorem LstN.keep {α : Type} {R : World → List Value → α → Prop} {n : Nat} {N X : Nat → Prop} {w w' : World} {x : Value} {l : List α} (h : LstN R n N w x l) (hk : Keep X w w') (hx : ∀ k, N k → ¬ X k)
    (hR : ∀ r a, R w r a → R w' r a) : LstN R n N w' x l := by
  obtain ⟨M, h1, h2, h3, h4⟩ := h
  exact ⟨M, h1, h2.keep hk (fun h0 k hb => hx k (h4 (fun e => h0 (List.eq_nil_of_length_eq_zero (by rw [h1, e]; rfl))) k hb)), fun i r a p q => hR _ _ (h3 i r a p q), h4⟩
theorem CatN.keep {N X : Nat → Prop} {w w' : World} {cs : List Value} {C : Cat} (h : CatN N w cs C) (hk : Keep X w w') (hx : ∀ k, N k → ¬ X k) : CatN N w' cs C := by
  obtain ⟨x, y, h1, h2, h3, h4, h5⟩ := h
  exact ⟨x, y, h1, h2.keep hk hx (fun _ _ h => h.keep hk hx), h3.keep hk hx (fun _ _ h => h.keep hk hx), h4, h5⟩
theorem CatN.old {N : Nat → Prop} {w w' : World} {cs : List Value} {C : Cat} (h : CatN N w cs C) (hb : Below w.heap.size w w') : CatN N w' cs C :=
  h.keep (X := fun _ => False) (Keep.of_below hb) (fun _ _ e => e)
theorem TabN.old {N : Nat → Prop} {w w' : World} {cs : List Value} {C : Tab} (h : TabN N w cs C) (hb : Below w.heap.size w w') : TabN N w' cs C :=
  h.keep (X := fun _ => False) (Keep.of_below hb) (fun _ _ e => e)
theorem IdxN.old {N : Nat → Prop} {w w' : World} {cs : List Value} {C : Idx} (h : IdxN N w cs C) (hb : Below w.heap.size w w') : IdxN N w' cs C :=
  h.keep (X := fun _ => False) (Keep.of_below hb) (fun _ _ e => e)
theorem ZsN.old {N : Nat → Prop} {w w' : World} {x : Value} {l : List Int} (h : ZsN N w x l) (hb : Below w.heap.size w w') : ZsN N w' x l :=
  h.keep (X := fun _ => False) (Keep.of_below hb) (fun _ _ e => e)

theorem idx_str {P : Program} (t : TypeId) (ht : P.underlying t = some .string) (s : List UInt8) (k : Nat) (h : k < s.length) : ∀ W, (Instr.index t (.string ⟨s.toArray⟩) (.int .i64 (k : Int))).run P W = .ok (.int .u8 ((s[k].toNat : Nat) : Int)) W := by
  intro W
  rw [run_index_string W t _ _ _ ht, dif_pos ⟨by omega, by show (k : Int) < (s.length : Int); omega⟩]
  rfl
theorem size_str (s : List UInt8) : (⟨s.toArray⟩ : ByteArray).size = s.length := rfl
theorem ba_eq (a b : List UInt8) : ((⟨a.toArray⟩ : ByteArray).toList == (⟨b.toArray⟩ : ByteArray).toList) = (a == b) := by
  rw [ByteArray.toList_eq, ByteArray.toList_eq]

/-- The cells of a block. -/
theorem cell_in {w : World} {b : Nat} {cs : Array Value} {t : TypeId} (h : w.heap[b]? = some (.cells cs t (0, 0))) (i : Nat) (u : Value) (hi : cs[i]? = some u) : w.cell? ⟨b, i, none⟩ = some u := by
  simp only [World.cell?, h]; simpa using hi
theorem cl_cells {w : World} {x : Value} {l : List Col} (h : Rws 3 w x (l.map colRow)) : ∃ ao c, x = .slice ao l.length c ∧ l.length ≤ c ∧ c ≤ maxLen ∧ ∀ (k : Nat) d, l[k]? = some d → ∃ b off, ao = some ⟨b, off, none⟩ ∧
    w.cell? ⟨b, off + k * 3, none⟩ = some (.string ⟨d.name.toArray⟩) ∧ w.cell? ⟨b, off + k * 3 + 1, none⟩ = some (.int .i64 d.kind) ∧ w.cell? ⟨b, off + k * 3 + 2, none⟩ = some (.bool d.null) := by
  obtain ⟨ao, c, rfl, h1, h2⟩ := h.form
  rw [List.length_map] at h h1
  refine ⟨ao, c, by rw [List.length_map], h1, h2, fun k z hk => ?_⟩
  obtain ⟨b, off, rfl, h3⟩ := h.get (by decide) (k := k) (r := colRow z) (by rw [List.getElem?_map, hk]; rfl)
  exact ⟨b, off, rfl, h3 0 _ rfl, h3 1 _ rfl, h3 2 _ rfl⟩
theorem below_drewN (w : World) (n : Nat) : Below w.heap.size w (w.drewN n) := ⟨rfl, rfl, rfl, Nat.le_refl _, fun _ _ => rfl⟩
theorem below_step {w w1 w2 : World} (h : Below w.heap.size w w1) (h2 : Below w1.heap.size w1 w2) : Below w.heap.size w w2 := h.trans (h2.mono h.size)
theorem block_cell {w : World} {a : Addr} {v : Value} (h : w.cell? a = some v) : a.block < w.heap.size := World.block_lt_of_cell? w a h
end Go.Proofs.YtpdmocdfnakggaaDoor

set_option linter.unusedVariables false
set_option linter.unusedSimpArgs false
set_option maxRecDepth 100000
namespace Go.Proofs.YtpdmocdfnakggaaDoor
open Go.RowKit Go.Deep

theorem all_take {p : UInt8 → Bool} {s : List UInt8} {k : Nat} (h : k < s.length) (ha : (s.take k).all p = true) : (s.take (k + 1)).all p = p s[k] := by
  rw [List.take_add_one, List.getElem?_eq_getElem h, List.all_append, ha]; simp

set_option maxHeartbeats 2000000 in
theorem rName_any (w : World) (s : List UInt8) (hs : s.length ≤ 140737488355328) : Calls Tryd.prog 42 #[.string ⟨s.toArray⟩] w (fun e w' => e = .returned (.bool (nameB s)) ∧ w = w') := by
  have hsz := size_str s
  go_enter Tryd.func42, Tryd.ntmps42
  go_wp2
  go_loopw [3] (fun j wr => ∃ k : Nat, k ≤ s.length ∧ j = .int .i64 (k : Int) ∧ wr = w ∧ (s.take k).all (fun c => okByte c.toNat) = true)
    (fun j _ => s.length - (intOf j).toNat)
  case atStart => exact ⟨0, by omega, rfl, rfl, rfl⟩
  case round =>
    obtain ⟨k, hk, rfl, rfl, ha⟩ := hrel
    have HA := hid ha
    clear ha
    by_cases hlt : k < s.length
    · have hidx := idx_str (P := Tryd.prog) 9 Tryd.underlying9 s k hlt
      have HT := hid (all_take hlt HA.out)
      have hc256 := UInt8.toNat_lt s[k]
      have HN : Hid (okByte s[k].toNat = false → nameB s = false) := hid (fun h => by
        have h9 : s.all (fun c => okByte c.toNat) = false := by
          rw [List.all_eq_false]; exact ⟨s[k], List.getElem_mem hlt, by simpa using h⟩
        unfold nameB; rw [h9]; rfl)
      generalize s[k].toNat = c at *
      have hcs : (c < 48 ∧ okByte c = false) ∨ (48 ≤ c ∧ c ≤ 57 ∧ okByte c = true) ∨ (57 < c ∧ c < 95 ∧ okByte c = false) ∨ (c = 95 ∧ okByte c = true) ∨ (c = 96 ∧ okByte c = false) ∨ (97 ≤ c ∧ c ≤ 122 ∧ okByte c = true) ∨ (122 < c ∧ okByte c = false) := by
        unfold okByte
        simp only [Bool.or_eq_true, Bool.and_eq_true, decide_eq_true_eq, Bool.or_eq_false_iff, Bool.and_eq_false_iff, decide_eq_false_iff_not]
        omega
      have go : ∀ (b1 b2 b3 b4 b5 : Bool), decide ((97 : Int) ≤ c) = b1 → decide ((c : Int) ≤ 122) = b2 → decide ((48 : Int) ≤ c) = b3 → decide ((c : Int) ≤ 57) = b4 → ((c : Int) == 95) = b5 → Hid (okByte c = (b1 && b2 || b3 && b4 || b5)) := by
        rintro _ _ _ _ _ rfl rfl rfl rfl rfl
        refine hid ?_
        unfold okByte
        have e1 : decide ((97 : Int) ≤ c) = decide (97 ≤ c) := by congr 1; simp; omega
        have e2 : decide ((c : Int) ≤ 122) = decide (c ≤ 122) := by congr 1; simp; omega
        have e3 : decide ((48 : Int) ≤ c) = decide (48 ≤ c) := by congr 1; simp; omega
        have e4 : decide ((c : Int) ≤ 57) = decide (c ≤ 57) := by congr 1; simp; omega
        have e5 : ((c : Int) == 95) = decide (c = 95) := by rw [Bool.eq_iff_iff]; simp; omega
        rw [e1, e2, e3, e4, e5]
      clear hcs
      cases hb1 : decide ((97 : Int) ≤ c) <;> cases hb2 : decide ((c : Int) ≤ 122) <;> cases hb3 : decide ((48 : Int) ≤ c) <;> cases hb4 : decide ((c : Int) ≤ 57) <;> cases hb5 : ((c : Int) == 95)
      all_goals
        have HG := go _ _ _ _ _ hb1 hb2 hb3 hb4 hb5
        clear go
        first
        | (exfalso; simp only [decide_eq_true_eq, decide_eq_false_iff_not, beq_iff_eq, beq_eq_false_iff_ne] at hb1 hb2 hb3 hb4 hb5; omega)
        | (go_wp2_with fail
           go_roundw
           case rel => exact ⟨k + 1, by omega, by go_num, trivial, by rw [HT.out]; exact HG.out⟩
           case measure => simp [intOf]; omega)
        | (go_wp2_with fail
           go_ret
           exact ⟨by rw [HN.out HG.out]; rfl, rfl⟩)
    · obtain rfl : k = s.length := by omega
      rw [List.take_length] at HA
      have HB : Hid (nameB s = (decide (1 ≤ s.length) && decide (s.length ≤ 20))) := hid (by unfold nameB; rw [HA.out]; rfl)
      clear HA
      by_cases h1 : 1 ≤ s.length
      · by_cases h2 : s.length ≤ 20
        · have h3 : (s.length : Int) ≤ 20 := by omega
          have HC : Hid (nameB s = true) := hid (by rw [HB.out]; simp [h1, h2])
          go_wp2_with fail
          go_ret
          exact ⟨by rw [HC.out]; rfl, rfl⟩
        · have h3 : ¬ (s.length : Int) ≤ 20 := by omega
          have HC : Hid (nameB s = false) := hid (by rw [HB.out]; simp [h1, h2])
          go_wp2_with fail
          go_ret
          exact ⟨by rw [HC.out]; rfl, rfl⟩
      · have h3 : s.length = 0 := by omega
        have h4 : ¬ 1 ≤ (s.length : Int) := by omega
        have HC : Hid (nameB s = false) := hid (by rw [HB.out]; simp [h1])
        go_wp2_with fail
        go_ret
        exact ⟨by rw [HC.out]; rfl, rfl⟩
end Go.Proofs.YtpdmocdfnakggaaDoor

set_option linter.unusedVariables false
set_option linter.unusedSimpArgs false
set_option maxRecDepth 100000
namespace Go.Proofs.YtpdmocdfnakggaaDoor
open Go.RowKit Go.Deep

theorem zs_cells {w : World} {x : Value} {l : List Int} (h : Rws 1 w x (l.map zRow)) : ∃ ao c, x = .slice ao l.length c ∧ l.length ≤ c ∧ c ≤ maxLen ∧ ∀ (k : Nat) z, l[k]? = some z → ∃ b off, ao = some ⟨b, off, none⟩ ∧ w.cell? ⟨b, off + k, none⟩ = some (.int .i64 z) := by
  obtain ⟨ao, c, rfl, h1, h2⟩ := h.form
  rw [List.length_map] at h h1
  refine ⟨ao, c, by rw [List.length_map], h1, h2, fun k z hk => ?_⟩
  obtain ⟨b, off, rfl, h3⟩ := h.get (by decide) (k := k) (r := zRow z) (by rw [List.getElem?_map, hk]; rfl)
  refine ⟨b, off, rfl, ?_⟩
  have := h3 0 (.int .i64 z) rfl
  rwa [Nat.mul_one, Nat.add_zero] at this

theorem contains_take {l : List Int} {k : Nat} {z u : Int} (h : l[k]? = some u) (h0 : (l.take k).contains z = false) : (l.take (k + 1)).contains z = (u == z) := by
  rw [List.take_add_one, h]
  show (l.take k ++ [u]).contains z = _
  rw [List.contains_eq_any_beq] at h0 ⊢
  rw [List.any_append, h0]
  simp only [List.any_cons, List.any_nil, Bool.or_false, Bool.false_or]
  rw [Bool.eq_iff_iff, beq_iff_eq, beq_iff_eq]
  exact ⟨Eq.symm, Eq.symm⟩

set_option maxHeartbeats 2000000 in
theorem inInt_any (w : World) {x : Value} {l : List Int} (hx : Rws 1 w x (l.map zRow)) (z : Int) : Calls Tryd.prog 39 #[x, .int .i64 z] w (fun e w' => e = .returned (.bool (l.contains z)) ∧ w' = w) := by
  obtain ⟨ao, c, rfl, h1, h2, hc⟩ := zs_cells hx
  have hlm : l.length ≤ 9223372036854775807 := by unfold maxLen at h2; omega
  have HC := hid hc
  clear hx hc
  go_enter Tryd.func39, Tryd.ntmps39
  go_wp2
  go_loopw [5] (fun j wr => ∃ k : Nat, k ≤ l.length ∧ j = .int .i64 (k : Int) ∧ wr = w ∧ (l.take k).contains z = false)
    (fun j _ => l.length - (intOf j).toNat)
  case atStart => exact ⟨0, by omega, rfl, rfl, by simp⟩
  case round =>
    obtain ⟨k, hk, rfl, rfl, ha⟩ := hrel
    have HA := hid ha
    clear ha
    by_cases hlt : k < l.length
    · obtain ⟨u, hu⟩ : ∃ u, l[k]? = some u := ⟨_, List.getElem?_eq_getElem hlt⟩
      obtain ⟨b, off, rfl, hcell⟩ := HC.out k u hu
      have HT := hid (contains_take hu HA.out)
      have HU := hid hu
      clear hu
      have HM : Hid (u = z → l.contains z = true) := hid (fun e => by subst e; simp only [List.contains_eq_mem, decide_eq_true_eq]; exact List.mem_of_getElem? HU.out)
      by_cases huz : u = z
      · have HR := hid (HM.out huz)
        subst huz
        clear HM HT
        go_wp2_with fail
        go_ret
        exact ⟨by rw [HR.out]; rfl, rfl⟩
      · have hb : (u == z) = false := by simp [huz]
        rw [hb] at HT
        go_wp2_with fail
        go_roundw
        case rel => exact ⟨k + 1, by omega, by go_num, trivial, HT.out⟩
        case measure => simp [intOf]; omega
    · obtain rfl : k = l.length := by omega
      rw [List.take_length] at HA
      go_wp2_with fail
      go_ret
      exact ⟨by rw [HA.out]; rfl, rfl⟩

theorem plcs_at {n : Int} {l : List Int} {k : Nat} {z : Int} (h : l[k]? = some z) : plcs n (l.take k) (l.drop k) = (!(decide (z < 0) || decide (n ≤ z) || (l.take k).contains z) && plcs n (l.take (k + 1)) (l.drop (k + 1))) := by
  obtain ⟨hk, rfl⟩ := List.getElem?_eq_some_iff.1 h
  rw [List.drop_eq_getElem_cons hk, plcs, List.take_add_one, List.getElem?_eq_getElem hk]
  rfl

theorem drew_more {w wr : World} (h : ∃ q, wr = w.drewN q) (n : Nat) : ∃ q, wr.drewN n = w.drewN q := by
  obtain ⟨q, rfl⟩ := h
  exact ⟨q + n, by simp [World.drewN, Nat.add_assoc]⟩

set_option maxHeartbeats 4000000 in
theorem rPlaces_quiet (w : World) {x : Value} {l : List Int} (hx : Rws 1 w x (l.map zRow)) (n : Int) : Calls Tryd.prog 43 #[x, .int .i64 n] w (fun e w' => e = .returned (.bool (placesB l n)) ∧ ∃ q, w' = w.drewN q) := by
  obtain ⟨ao, c, rfl, h1, h2, hc⟩ := zs_cells hx
  have hlm : l.length ≤ 9223372036854775807 := by unfold maxLen at h2; omega
  have HC := hid hc
  have HX := hid hx
  clear hx hc
  go_enter Tryd.func43, Tryd.ntmps43
  go_wp2
  go_loopw [5] (fun j wr => ∃ k : Nat, k ≤ l.length ∧ j = .int .i64 (k : Int) ∧ (∃ q, wr = w.drewN q) ∧ plcs n (l.take k) (l.drop k) = plcs n [] l)
    (fun j _ => l.length - (intOf j).toNat)
  case atStart => exact ⟨0, by omega, rfl, ⟨0, rfl⟩, rfl⟩
  case round =>
    obtain ⟨k, hk, rfl, hb, ha⟩ := hrel
    have HA := hid ha
    have HQW := hid hb
    have HB : Hid (Below w.heap.size w wr) := hid (by obtain ⟨q, rfl⟩ := hb; exact ⟨rfl, rfl, rfl, Nat.le_refl _, fun _ _ => rfl⟩)
    clear ha hb
    by_cases hlt : k < l.length
    · obtain ⟨u, hu⟩ : ∃ u, l[k]? = some u := ⟨_, List.getElem?_eq_getElem hlt⟩
      obtain ⟨b, off, rfl, hcell⟩ := HC.out k u hu
      have hcl : wr.cell? ⟨b, off + k, none⟩ = some (.int .i64 u) := by
        rw [← hcell]; exact HB.out.cell (World.block_lt_of_cell? w _ hcell)
      have hkl : (k : Int) < (l.length : Int) := by omega
      obtain ⟨ao2, c2, hsl, hr2, -⟩ := HX.out.head (P := Tryd.prog) 23 3 Tryd.underlying23 (by kernel_rfl) k (by rw [List.length_map]; omega)
      have hslk : ∀ W, (Instr.slice 23 (.slice (some ⟨b, off, none⟩) l.length c) none (some (.int .i64 (k : Int))) none).run Tryd.prog W = .ok (.slice ao2 k c2) W := fun W => hsl _ W
      have hr3 : ∀ W, Below w.heap.size w W → Rws 1 W (.slice ao2 k c2) ((l.take k).map zRow) := fun W hW => by rw [List.map_take]; exact hr2.old hW
      clear hsl hr2
      have HIN : Hid (∀ q, Calls Tryd.prog 39 #[.slice ao2 k c2, .int .i64 u] (wr.drewN q) (fun e w' => e = .returned (.bool ((l.take k).contains u)) ∧ w' = wr.drewN q)) :=
        hid fun q => inInt_any (wr.drewN q) (hr3 _ ⟨HB.out.os, HB.out.tape, HB.out.output, HB.out.size, HB.out.block⟩) u
      clear hr3
      have HP := hid (plcs_at (n := n) hu)
      rw [HA.out] at HP
      generalize hq0 : (l.take k).contains u = q0 at *
      have HQ0 := hid hq0
      clear hq0 hcell hu
      go_upto_region 4 with fail
      cases hb1 : decide (u < 0) with
      | true =>
        have HF : Hid (placesB l n = false) := hid (by unfold placesB; rw [HP.out, hb1]; rfl)
        go_quiet (fail)
        go_wp2_with fail
        go_ret
        exact ⟨by rw [HF.out]; rfl, drew_more HQW.out _⟩
      | false =>
        cases hb2 : decide (n ≤ u) with
        | true =>
          have HF : Hid (placesB l n = false) := hid (by unfold placesB; rw [HP.out, hb1, hb2]; rfl)
          go_quiet (fail)
          go_wp2_with fail
          go_ret
          exact ⟨by rw [HF.out]; rfl, drew_more HQW.out _⟩
        | false =>
          cases q0 with
          | true =>
            have HF : Hid (placesB l n = false) := hid (by unfold placesB; rw [HP.out, hb1, hb2]; rfl)
            go_quiet ((go_at_call 39; exact Calls.quiet_of_same (HIN.out _)))
            go_wp2_with fail
            go_ret
            exact ⟨by rw [HF.out]; rfl, drew_more HQW.out _⟩
          | false =>
            rw [hb1, hb2] at HP
            go_quiet ((go_at_call 39; exact Calls.quiet_of_same (HIN.out _)))
            go_wp2_with fail
            go_roundw
            case rel => exact ⟨k + 1, by omega, by go_num, drew_more HQW.out _, by rw [HP.out]; rfl⟩
            case measure => simp [intOf]; omega
    · obtain rfl : k = l.length := by omega
      rw [List.take_length, List.drop_length] at HA
      have HP : Hid (placesB l n = (decide (1 ≤ l.length) && decide (l.length ≤ 6))) := hid (by unfold placesB; rw [← HA.out]; rfl)
      clear HA
      by_cases h1 : 1 ≤ l.length
      · by_cases h2 : l.length ≤ 6
        · have h3 : (l.length : Int) ≤ 6 := by omega
          have HR : Hid (placesB l n = true) := hid (by rw [HP.out]; simp [h1, h2])
          go_wp2_with fail
          go_ret
          exact ⟨by rw [HR.out]; rfl, HQW.out⟩
        · have h3 : ¬ (l.length : Int) ≤ 6 := by omega
          have HR : Hid (placesB l n = false) := hid (by rw [HP.out]; simp [h1, h2])
          go_wp2_with fail
          go_ret
          exact ⟨by rw [HR.out]; rfl, HQW.out⟩
      · have h3 : l.length = 0 := by omega
        have h4 : ¬ 1 ≤ (l.length : Int) := by omega
        have HR : Hid (placesB l n = false) := hid (by rw [HP.out]; simp [h1])
        go_wp2_with fail
        go_ret
        exact ⟨by rw [HR.out]; rfl, HQW.out⟩
theorem rPlaces_any (w : World) {x : Value} {l : List Int} (hx : Rws 1 w x (l.map zRow)) (n : Int) : Calls Tryd.prog 43 #[x, .int .i64 n] w (fun e w' => e = .returned (.bool (placesB l n)) ∧ Below w.heap.size w w') :=
  (rPlaces_quiet w hx n).mono fun e w' ⟨h1, q, h2⟩ => ⟨h1, by subst h2; exact ⟨rfl, rfl, rfl, Nat.le_refl _, fun _ _ => rfl⟩⟩
end Go.Proofs.YtpdmocdfnakggaaDoor

set_option linter.unusedVariables false
set_option linter.unusedSimpArgs false
set_option maxRecDepth 100000
namespace Go.Proofs.YtpdmocdfnakggaaDoor
open Go.RowKit Go.Deep

def mayV (c : Col) (v : Vl) : Prop := okV v ∧ (v.k = c.kind ∨ v.k = 0 ∧ c.null = true)
def RowOk (T : Tab) (r : List Vl) : Prop := r.length = T.cols.length ∧ ∀ (i : Nat) c v, T.cols[i]? = some c → r[i]? = some v → mayV c v
def pickL (r : List Vl) (L : List Int) : List Vl := L.map (fun z => r.getD z.toNat ⟨0, 0, []⟩)
def PlOk (L : List Int) (n : Nat) : Prop := ∀ z ∈ L, 0 ≤ z ∧ z < (n : Int)
def KeyOk (T : Tab) (k : List Vl) : Prop := k.length = T.key.length ∧ ∀ (i : Nat) z v, T.key[i]? = some z → k[i]? = some v → okV v ∧ v.k = (colAt T.cols z).kind

set_option maxHeartbeats 1000000 in
theorem isOf_ok (w : World) (v : Vl) (hv : okV v) : Calls Tryd.prog 59 #[sv v, .int .i64 v.k] w (Ans w (.bool true)) := by
  have HD := hid (decide_eq_true hv)
  unfold sv
  go_enter Tryd.func59, Tryd.ntmps59
  go_upto_region 1 with fail
  have hb := (Below.refl w.heap.size w).alloc (Nat.le_refl _) (.cells #[.int .i64 v.k, .int .i64 v.i, .string ⟨v.s.toArray⟩] 44)
  have hz := heap_alloc_new w (.cells #[.int .i64 v.k, .int .i64 v.i, .string ⟨v.s.toArray⟩] 44)
  generalize w.alloc (.cells #[.int .i64 v.k, .int .i64 v.i, .string ⟨v.s.toArray⟩] 44) = w1 at *
  have CR := hid (right_any v w1)
  rw [HD.out] at CR
  simp only [sv] at CR
  have z0 := cell_in hz 0 _ rfl
  have z1 := cell_in hz 1 _ rfl
  have z2 := cell_in hz 2 _ rfl
  have HB := hid hb
  clear hb hz
  go_wp2_with (first | (go_at_call 69; refine CR.out.mono ?_; rintro en w2 ⟨rfl, hb2⟩; have HB2 := hid (below_step HB.out hb2); have q0 := (hb2.cell (block_cell z0)).trans z0; clear z0 z1 z2 hb2))
  go_ret
  exact ⟨rfl, HB2.out⟩

set_option maxHeartbeats 4000000 in
theorem checkRow_ok {N : Nat → Prop} {w : World} {cs : List Value} {T : Tab} (h : TabN N w cs T) {x : Value} {r : List Vl} (hx : Vs w x r) (hok : RowOk T r) :
    Calls Tryd.prog 38 #[.agg cs.toArray, x] w (Ans w .nilIface) := by
  obtain ⟨x2, y2, rfl, ⟨hx2, -⟩, ⟨hy2, -⟩, -, -⟩ := h
  obtain ⟨a1, e1, rfl, p1, p2, pc⟩ := cl_cells hx2
  obtain ⟨a3, e3, rfl, -, -, -⟩ := zs_cells hy2
  obtain ⟨a2, e2, rfl, hm⟩ := hx.form
  have hlm : T.cols.length ≤ 9223372036854775807 := by unfold maxLen at p2; omega
  have hln : r.length = T.cols.length := hok.1
  rw [hln] at hx ⊢
  have HLN := hid hln
  clear hln
  have HC := hid pc
  have HX := hid hx
  have HR := hid hok.2
  clear hx2 hy2 pc hx hok
  go_enter Tryd.func38, Tryd.ntmps38
  go_upto_region 1 with fail
  have hb := (Below.refl w.heap.size w).alloc (Nat.le_refl _) (.cells #[.int .i64 T.id, .string ⟨T.name.toArray⟩, .slice a1 T.cols.length e1, .slice a3 T.key.length e3] 25)
  have hz := heap_alloc_new w (.cells #[.int .i64 T.id, .string ⟨T.name.toArray⟩, .slice a1 T.cols.length e1, .slice a3 T.key.length e3] 25)
  generalize w.alloc (.cells #[.int .i64 T.id, .string ⟨T.name.toArray⟩, .slice a1 T.cols.length e1, .slice a3 T.key.length e3] 25) = w1 at *
  have HB := hid hb
  have z2 := cell_in hz 2 _ rfl
  clear hb hz
  go_wp2_with fail
  go_loopw [18] (fun j wr => ∃ k : Nat, k ≤ T.cols.length ∧ j = .int .i64 (k : Int) ∧ Below w.heap.size w wr)
    (fun j _ => T.cols.length - (intOf j).toNat)
  case atStart => exact ⟨0, by omega, rfl, HB.out⟩
  case round =>
    obtain ⟨k, hk, rfl, hb⟩ := hrel
    have HBr := hid hb
    clear hb z2
    by_cases hlt : k < T.cols.length
    · obtain ⟨c, hc⟩ : ∃ c, T.cols[k]? = some c := ⟨_, List.getElem?_eq_getElem hlt⟩
      obtain ⟨v, hv⟩ : ∃ v, r[k]? = some v := ⟨_, List.getElem?_eq_getElem (by have := HLN.out; omega)⟩
      obtain ⟨b, off, rfl, c0, c1, c2⟩ := HC.out k c hc
      obtain ⟨b2, off2, rfl, d0, d1, d2⟩ := HX.out.get hv
      have hmay := HR.out k c v hc hv
      have hki : (k : Int) < (T.cols.length : Int) := by omega
      have k0 := (HBr.out.cell (block_cell c0)).trans c0
      have k1 := (HBr.out.cell (block_cell c1)).trans c1
      have k2 := (HBr.out.cell (block_cell c2)).trans c2
      have HD0 := hid ((HBr.out.cell (block_cell d0)).trans d0)
      have HD1 := hid ((HBr.out.cell (block_cell d1)).trans d1)
      have HD2 := hid ((HBr.out.cell (block_cell d2)).trans d2)
      clear c0 c1 c2 d0 d1 d2 hc hv
      go_upto_region 6 with fail
      have hb3 := (Below.refl wr.heap.size wr).alloc (Nat.le_refl _) (.cells #[.string ⟨c.name.toArray⟩, .int .i64 c.kind, .bool c.null] 58)
      have hz3 := heap_alloc_new wr (.cells #[.string ⟨c.name.toArray⟩, .int .i64 c.kind, .bool c.null] 58)
      generalize wr.alloc (.cells #[.string ⟨c.name.toArray⟩, .int .i64 c.kind, .bool c.null] 58) = w3 at *
      have HB3 := hid (below_step HBr.out hb3)
      have q0 := (hb3.cell (block_cell HD0.out)).trans HD0.out
      have q1 := (hb3.cell (block_cell HD1.out)).trans HD1.out
      have q2 := (hb3.cell (block_cell HD2.out)).trans HD2.out
      have z1 := cell_in hz3 1 _ rfl
      have z2 := cell_in hz3 2 _ rfl
      clear hb3 hz3 k0 k1 k2
      obtain ⟨hokv, hkd⟩ := hmay
      have fin : Hid (v.k = c.kind → Calls Tryd.prog 59 #[.agg #[.int .i64 v.k, .int .i64 v.i, .string ⟨v.s.toArray⟩], .int .i64 c.kind] w3.drew (Ans w3.drew (.bool true))) := hid (fun e => by have h := isOf_ok w3.drew v hokv; rw [e] at h ⊢; simpa only [sv, e] using h)
      by_cases hn : v.k = 0 ∧ c.null = true
      · obtain ⟨hv0, hn0⟩ := hn
        have hvz : v = ⟨0, 0, []⟩ := by
          obtain ⟨vk, vi, vs⟩ := v
          simp only at hv0
          subst hv0
          rcases hokv with ⟨-, h1, h2⟩ | ⟨h1, -⟩ | ⟨h1, -⟩
          · simp only at h1 h2; rw [h1, h2]
          · simp at h1
          · simp at h1
        clear fin hokv hkd hv0
        subst hvz
        rw [hn0] at z2
        clear HD0 HD1 HD2 hn0
        go_upto_region 7 with fail
        go_region
        go_wp2_with fail
        go_roundw
        case rel => exact ⟨k + 1, by omega, by go_num, HB3.out.drew⟩
        case measure => simp [intOf]; omega
      · have hk9 : v.k = c.kind := by rcases hkd with h | h
                                      · exact h
                                      · exact absurd h hn
        have CI := hid (fin.out hk9)
        clear fin hkd HD0 HD1 HD2
        cases hq : c.null with
        | true =>
          have hv0 : (v.k == 0) = false := by simpa using fun e => hn ⟨e, hq⟩
          rw [hq] at z2
          clear hn hk9 hokv hq
          go_upto_region 7 with fail
          go_region_with (first | (go_at_call 59; refine CI.out.mono ?_; rintro en w4 ⟨rfl, hb4⟩))
          all_goals
            have HB4 : Hid (Below w.heap.size w w4) := hid (below_step HB3.out.drew hb4)
            clear hb4
            go_wp2_with fail
            go_roundw
            · exact ⟨k + 1, by omega, by go_num, HB4.out⟩
            · simp [intOf]; omega
        | false =>
          rw [hq] at z2
          clear hn hk9 hokv hq
          go_upto_region 7 with fail
          go_region_with (first | (go_at_call 59; refine CI.out.mono ?_; rintro en w4 ⟨rfl, hb4⟩))
          all_goals
            have HB4 : Hid (Below w.heap.size w w4) := hid (below_step HB3.out.drew hb4)
            clear hb4
            go_wp2_with fail
            go_roundw
            · exact ⟨k + 1, by omega, by go_num, HB4.out⟩
            · simp [intOf]; omega
    · obtain rfl : k = T.cols.length := by omega
      go_wp2_with fail
      go_ret
      exact ⟨rfl, HBr.out⟩
end Go.Proofs.YtpdmocdfnakggaaDoor

namespace Go.Proofs.YtpdmocdfnakggaaDoor
open Go.RowKit

theorem vown_below {w w1 : World} {base n : Nat} {x : Value} {xs : List Value} (hown : w.ownsRow base 44 3 x n xs) (hb : base ≤ w.heap.size) {o : Obj} (hg : (w.alloc o).grownBy w1 x.ownBlock) : Below base w w1 :=
  ((Below.refl base w).alloc hb o).grown hg (by simp; omega) (fun k hk => (hown.lt k hk).1)

end Go.Proofs.YtpdmocdfnakggaaDoor

set_option linter.unusedVariables false
set_option linter.unusedSimpArgs false
set_option maxRecDepth 100000
namespace Go.Proofs.YtpdmocdfnakggaaDoor
open Go.RowKit Go.Deep

theorem pickL_take {r : List Vl} {L : List Int} {k m : Nat} {v : Vl} (h : L[k]? = some (m : Int)) (hv : r[m]? = some v) : pickL r (L.take (k + 1)) = pickL r (L.take k) ++ [v] := by
  unfold pickL
  rw [List.take_add_one, h, List.map_append]
  simp [List.getD_eq_getElem?_getD, hv]
theorem pickL_len (r : List Vl) (L : List Int) : (pickL r L).length = L.length := by unfold pickL; rw [List.length_map]

/-- What picking makes: a list of the call's own. -/
def PickA (r : List Vl) (L : List Int) (w : World) (e : Ending) (w' : World) : Prop :=
  ∃ v, e = .returned (.tuple #[v, .nilIface]) ∧ w'.ownsRow w.heap.size 44 3 v L.length (cellsL (pickL r L)) ∧ Below w.heap.size w w'

set_option maxHeartbeats 4000000 in
theorem pickV_ok {w : World} {x y : Value} {r : List Vl} {L : List Int} (hx : Vs w x r) (hy : Rws 1 w y (L.map zRow)) (hp : PlOk L r.length) (hl : L.length ≤ 1000) :
    Calls Tryd.prog 44 #[x, y] w (PickA r L w) := by
  obtain ⟨a1, e1, rfl, hm⟩ := hx.form
  obtain ⟨a2, e2, rfl, p1, p2, pc⟩ := zs_cells hy
  unfold maxLen at hm
  have HC := hid pc
  have HX := hid hx
  have HP := hid hp
  clear hx hy pc hp
  go_enter Tryd.func44, Tryd.ntmps44
  go_wp2_with fail
  go_loopw [6, 11] (fun o j wr => ∃ k : Nat, k ≤ L.length ∧ j = .int .i64 (k : Int) ∧ Hid (wr.ownsRow w.heap.size 44 3 o k (cellsL (pickL r (L.take k)))) ∧ Hid (Below w.heap.size w wr))
    (fun _ j _ => L.length - (intOf j).toNat)
  case atStart => exact ⟨0, by omega, rfl, World.ownsRow_nil _ _ _ _, Below.refl _ _⟩
  case round =>
    obtain ⟨k, hk, rfl, HO, HB⟩ := hrel
    by_cases hlt : k < L.length
    · obtain ⟨z, hz⟩ : ∃ z, L[k]? = some z := ⟨_, List.getElem?_eq_getElem hlt⟩
      obtain ⟨hz1, hz2⟩ := HP.out z (List.mem_of_getElem? hz)
      obtain ⟨m, rfl⟩ : ∃ m : Nat, z = (m : Int) := ⟨z.toNat, by omega⟩
      obtain ⟨v, hv⟩ : ∃ v, r[m]? = some v := ⟨_, List.getElem?_eq_getElem (by omega)⟩
      have HT := hid (pickL_take hz hv)
      obtain ⟨b, off, rfl, c0⟩ := HC.out k m hz
      obtain ⟨b2, off2, rfl, d0, d1, d2⟩ := (HX.out.old HB.out).get hv
      have hki : (k : Int) < (L.length : Int) := by omega
      have k0 := (HB.out.cell (block_cell c0)).trans c0
      have hm0 : ¬ (m : Int) < 0 := by omega
      have hm1 : ¬ (r.length : Int) ≤ (m : Int) := by omega
      clear c0 hz hv hz1
      have HAO := hid (HO.out.alloc (.cells #[.int .i64 v.k, .int .i64 v.i, .string ⟨v.s.toArray⟩] 44))
      have HV1 := hid (Vs.one (t := 44) (heap_alloc_new wr (.cells #[.int .i64 v.k, .int .i64 v.i, .string ⟨v.s.toArray⟩] 44)))
      have HB3 := hid (HB.out.alloc HB.out.size (.cells #[.int .i64 v.k, .int .i64 v.i, .string ⟨v.s.toArray⟩] 44))
      go_wp2_with (first
        | (at_builtin; refine wp_vapp rfl _ _ 28 rfl w.heap.size 44 Tryd.underlying28 _ info_val (by decide) _ _ _ rfl HAO.out _ [v] rfl HV1.out ?c1 ?c2 ?_))
      case c1 => omega
      case c2 => have := HB.out.size; omega
      intro x4 w4 o4 g4
      have HB4 := hid (HB.out.trans (vown_below HO.out HB.out.size g4))
      have HO4 : Hid (w4.ownsRow w.heap.size 44 3 x4 (k + 1) (cellsL (pickL r (L.take (k + 1))))) := hid (by rw [HT.out, cellsL_app]; exact o4)
      clear o4 g4
      go_wp2_with fail
      go_roundw
      case rel => exact ⟨k + 1, by omega, by go_num, HO4, HB4⟩
      case measure => simp [intOf]; omega
    · obtain rfl : k = L.length := by omega
      rw [List.take_length] at HO
      go_wp2_with fail
      go_ret2
      exact ⟨_, rfl, HO.out, HB.out⟩

theorem colAt_eq {l : List Col} {m : Nat} {c : Col} (h : l[m]? = some c) : colAt l (m : Int) = c := by
  unfold colAt
  rw [show ((m : Int)).toNat = m by omega, List.getD_eq_getElem?_getD, h]; rfl
theorem colsL_take {r : List Col} {L : List Int} {k m : Nat} {v : Col} (h : L[k]? = some (m : Int)) (hv : r[m]? = some v) : (L.take (k + 1)).map (colAt r) = (L.take k).map (colAt r) ++ [v] := by
  rw [List.take_add_one, h, List.map_append]
  simp [colAt_eq hv]
theorem colR_flat (l : List Col) (c : Col) : ((l ++ [c]).map colRow).flatten = (l.map colRow).flatten ++ [colRow c].flatten := by simp
theorem colR_take (r : List Col) (L : List Int) (k : Nat) : (List.take k (L.map (colRow ∘ colAt r))).flatten = (((L.take k).map (colAt r)).map colRow).flatten := by rw [List.map_map, List.map_take]
theorem col_info : (Tryd.prog.info? 58).map (fun i => (i.zero, i.size, i.bytes)) = some (some (.agg #[.string ⟨#[]⟩, .int .i64 0, .bool false]), 3, 32) := by kernel_rfl
theorem col_wide (l : List Col) : Wide 3 (l.map colRow) := fun r hr => by
  obtain ⟨c, -, rfl⟩ := List.mem_map.1 hr
  exact ⟨rfl, fun u hu => by simp [colRow] at hu; rcases hu with rfl | rfl | rfl <;> rfl⟩

set_option maxHeartbeats 4000000 in
theorem pickC_ok {w : World} {x y : Value} {r : List Col} {L : List Int} (hx : Rws 3 w x (r.map colRow)) (hy : Rws 1 w y (L.map zRow)) (hp : PlOk L r.length) (hl : L.length ≤ 1000) :
    Calls Tryd.prog 67 #[x, y] w (fun e w' => ∃ v, e = .returned (.tuple #[v, .nilIface]) ∧ Rws 3 w' v ((L.map (colAt r)).map colRow) ∧ Below w.heap.size w w') := by
  obtain ⟨a1, e1, rfl, q1, hm, qc⟩ := cl_cells hx
  obtain ⟨a2, e2, rfl, p1, p2, pc⟩ := zs_cells hy
  unfold maxLen at hm
  have HC := hid pc
  have HX := hid qc
  have HP := hid hp
  clear hx hy pc qc hp
  go_enter Tryd.func67, Tryd.ntmps67
  go_wp2_with fail
  go_loopw [6, 11] (fun o j wr => ∃ k : Nat, k ≤ L.length ∧ j = .int .i64 (k : Int) ∧ Hid (wr.ownsRow w.heap.size 58 3 o k (((L.take k).map (colAt r)).map colRow).flatten) ∧ Hid (Below w.heap.size w wr))
    (fun _ j _ => L.length - (intOf j).toNat)
  case atStart => exact ⟨0, by omega, rfl, World.ownsRow_nil _ _ _ _, Below.refl _ _⟩
  case round =>
    obtain ⟨k, hk, rfl, HO, HB⟩ := hrel
    by_cases hlt : k < L.length
    · obtain ⟨z, hz⟩ : ∃ z, L[k]? = some z := ⟨_, List.getElem?_eq_getElem hlt⟩
      obtain ⟨hz1, hz2⟩ := HP.out z (List.mem_of_getElem? hz)
      obtain ⟨m, rfl⟩ : ∃ m : Nat, z = (m : Int) := ⟨z.toNat, by omega⟩
      obtain ⟨c, hc⟩ : ∃ c, r[m]? = some c := ⟨_, List.getElem?_eq_getElem (by omega)⟩
      have HT := hid (colsL_take hz hc)
      obtain ⟨b, off, rfl, c0⟩ := HC.out k m hz
      obtain ⟨b2, off2, rfl, f0, f1, f2⟩ := HX.out m c hc
      have hki : (k : Int) < (L.length : Int) := by omega
      have k0 := (HB.out.cell (block_cell c0)).trans c0
      have d0 := (HB.out.cell (block_cell f0)).trans f0
      have d1 := (HB.out.cell (block_cell f1)).trans f1
      have d2 := (HB.out.cell (block_cell f2)).trans f2
      have hm0 : ¬ (m : Int) < 0 := by omega
      have hm1 : ¬ (r.length : Int) ≤ (m : Int) := by omega
      clear c0 f0 f1 f2 hz hc hz1
      have HAO := hid (HO.out.alloc (.cells #[.string ⟨c.name.toArray⟩, .int .i64 c.kind, .bool c.null] 58))
      have HV1 := hid (Rws.one (w := wr) (size := 3) (r := colRow c) (t := 58) rfl (col_wide [c] _ (List.mem_singleton.2 rfl)))
      have HB3 := hid (HB.out.alloc HB.out.size (.cells #[.string ⟨c.name.toArray⟩, .int .i64 c.kind, .bool c.null] 58))
      go_wp2_with (first
        | (at_builtin; refine wp_rapp rfl _ _ 22 rfl w.heap.size 3 32 58 Tryd.underlying22 _ col_info (by decide) (by decide) _ _ _ rfl HAO.out _ [colRow c] rfl HV1.out ?c1 ?c3 ?c2 ?_))
      case c1 => omega
      case c3 => unfold maxLen; omega
      case c2 => have := HB.out.size; omega
      intro x4 w4 o4 g4
      have HB4 : Hid (Below w.heap.size w w4) := hid (HB3.out.trans ((Below.refl _ _).grown g4 HB3.out.size (fun j hj => (HO.out.lt j hj).1)))
      have HO4 : Hid (w4.ownsRow w.heap.size 58 3 x4 (k + 1) (((L.take (k + 1)).map (colAt r)).map colRow).flatten) := hid (by rw [HT.out, colR_flat, ← colR_take]; simpa using o4)
      clear o4 g4
      go_wp2_with fail
      go_roundw
      case rel => exact ⟨k + 1, by omega, by go_num, HO4, HB4⟩
      case measure => simp [intOf]; omega
    · obtain rfl : k = L.length := by omega
      rw [List.take_length] at HO
      go_wp2_with fail
      go_ret2
      exact ⟨_, rfl, Rws.own (by have h := HO.out; simpa using h) (col_wide _), HB.out⟩
end Go.Proofs.YtpdmocdfnakggaaDoor

set_option linter.unusedVariables false
set_option linter.unusedSimpArgs false
set_option maxRecDepth 100000
namespace Go.Proofs.YtpdmocdfnakggaaDoor
open Go.RowKit Go.Deep

set_option maxHeartbeats 4000000 in
theorem checkKey_ok {N : Nat → Prop} {w : World} {cs : List Value} {T : Tab} (h : TabN N w cs T) (hp : PlOk T.key T.cols.length) (hl : T.key.length ≤ 1000) {x : Value} {r : List Vl} (hx : Vs w x r) (hok : KeyOk T r) :
    Calls Tryd.prog 54 #[.agg cs.toArray, x] w (Ans w .nilIface) := by
  obtain ⟨x2, y2, rfl, ⟨hx2, -⟩, ⟨hy2, -⟩, -, -⟩ := h
  have HX2 := hid hx2
  have HY2 := hid hy2
  obtain ⟨a1, e1, rfl, p1, p2, -⟩ := cl_cells hx2
  obtain ⟨a3, e3, rfl, -, -, -⟩ := zs_cells hy2
  obtain ⟨a2, e2, rfl, hm⟩ := hx.form
  have hlm : T.key.length ≤ 9223372036854775807 := by omega
  have hln : r.length = T.key.length := hok.1
  rw [hln] at hx ⊢
  have HLN := hid hln
  clear hln
  have HX := hid hx
  have HR := hid hok.2
  have HP := hid hp
  clear hx2 hy2 hx hok hp
  go_enter Tryd.func54, Tryd.ntmps54
  go_upto_region 1 with fail
  have hb := (Below.refl w.heap.size w).alloc (Nat.le_refl _) (.cells #[.int .i64 T.id, .string ⟨T.name.toArray⟩, .slice a1 T.cols.length e1, .slice a3 T.key.length e3] 25)
  have hz := heap_alloc_new w (.cells #[.int .i64 T.id, .string ⟨T.name.toArray⟩, .slice a1 T.cols.length e1, .slice a3 T.key.length e3] 25)
  generalize w.alloc (.cells #[.int .i64 T.id, .string ⟨T.name.toArray⟩, .slice a1 T.cols.length e1, .slice a3 T.key.length e3] 25) = w1 at *
  have HB := hid hb
  have z2 := cell_in hz 2 _ rfl
  have z3 := cell_in hz 3 _ rfl
  clear hb hz
  have CP := hid (pickC_ok (HX2.out.old HB.out) (HY2.out.old HB.out) HP.out hl)
  go_upto_region 2 with (first | (go_at_call 67; refine CP.out.mono ?_; rintro en w2 ⟨v2, rfl, hr2, hb2⟩; obtain ⟨a5, e5, rfl, q1, q2, qc⟩ := cl_cells hr2; rw [List.length_map]; have HB2 := hid (below_step HB.out hb2); have HC := hid qc; clear z2 z3 hb2 hr2 qc CP))
  go_wp2_with fail
  go_loopw [29] (fun j wr => ∃ k : Nat, k ≤ T.key.length ∧ j = .int .i64 (k : Int) ∧ Hid (Below w2.heap.size w2 wr))
    (fun j _ => T.key.length - (intOf j).toNat)
  case atStart => exact ⟨0, by omega, rfl, Below.refl _ _⟩
  case round =>
    obtain ⟨k, hk, rfl, HBr⟩ := hrel
    by_cases hlt : k < T.key.length
    · obtain ⟨z, hz⟩ : ∃ z, T.key[k]? = some z := ⟨_, List.getElem?_eq_getElem hlt⟩
      obtain ⟨v, hv⟩ : ∃ v, r[k]? = some v := ⟨_, List.getElem?_eq_getElem (by have := HLN.out; omega)⟩
      obtain ⟨hokv, hkd⟩ := HR.out k z v hz hv
      obtain ⟨b, off, rfl, c0, c1, c2⟩ := HC.out k (colAt T.cols z) (by rw [List.getElem?_map, hz]; rfl)
      obtain ⟨b2, off2, rfl, d0, d1, d2⟩ := HX.out.get hv
      have hki : (k : Int) < (T.key.length : Int) := by omega
      generalize colAt T.cols z = c at *
      have k0 := (HBr.out.cell (block_cell c0)).trans c0
      have k1 := (HBr.out.cell (block_cell c1)).trans c1
      have k2 := (HBr.out.cell (block_cell c2)).trans c2
      have HBW := hid (below_step HB2.out HBr.out)
      have HD0 := hid ((HBW.out.cell (block_cell d0)).trans d0)
      have HD1 := hid ((HBW.out.cell (block_cell d1)).trans d1)
      have HD2 := hid ((HBW.out.cell (block_cell d2)).trans d2)
      clear c0 c1 c2 d0 d1 d2 hz hv
      go_upto_region 9 with fail
      have hb3 := (Below.refl wr.heap.size wr).alloc (Nat.le_refl _) (.cells #[.string ⟨c.name.toArray⟩, .int .i64 c.kind, .bool c.null] 58)
      have hz3 := heap_alloc_new wr (.cells #[.string ⟨c.name.toArray⟩, .int .i64 c.kind, .bool c.null] 58)
      generalize wr.alloc (.cells #[.string ⟨c.name.toArray⟩, .int .i64 c.kind, .bool c.null] 58) = w3 at *
      have HB3 : Hid (Below w2.heap.size w2 w3) := hid (below_step HBr.out hb3)
      have q0 := (hb3.cell (block_cell HD0.out)).trans HD0.out
      have q1 := (hb3.cell (block_cell HD1.out)).trans HD1.out
      have q2 := (hb3.cell (block_cell HD2.out)).trans HD2.out
      have z1 := cell_in hz3 1 _ rfl
      clear hb3 hz3 k0 k1 k2 HD0 HD1 HD2
      have CI : Hid (Calls Tryd.prog 59 #[.agg #[.int .i64 v.k, .int .i64 v.i, .string ⟨v.s.toArray⟩], .int .i64 c.kind] w3.drew (Ans w3.drew (.bool true))) := hid (by have h := isOf_ok w3.drew v hokv; rw [hkd] at h; simpa only [sv, hkd] using h)
      clear hokv hkd
      go_region_with (first | (go_at_call 59; refine CI.out.mono ?_; rintro en w4 ⟨rfl, hb4⟩))
      all_goals
        have HB4 : Hid (Below w2.heap.size w2 w4) := hid (below_step HB3.out.drew hb4)
        clear hb4
        go_wp2_with fail
        go_roundw
        · exact ⟨k + 1, by omega, by go_num, HB4⟩
        · simp [intOf]; omega
    · obtain rfl : k = T.key.length := by omega
      go_wp2_with fail
      go_ret
      exact ⟨rfl, below_step HB2.out HBr.out⟩

set_option maxHeartbeats 2000000 in
theorem keyOf_ok {N : Nat → Prop} {w : World} {cs : List Value} {T : Tab} (h : TabN N w cs T) (hp : PlOk T.key T.cols.length) (hl : T.key.length ≤ 1000) {x : Value} {r : List Vl} (hx : Vs w x r) (hok : RowOk T r) :
    Calls Tryd.prog 28 #[.agg cs.toArray, x] w (PickA r T.key w) := by
  have H0 := hid h
  have HOK := hid hok
  have HX := hid hx
  obtain ⟨x2, y2, rfl, ⟨hx2, -⟩, ⟨hy2, -⟩, -, -⟩ := h
  have HY2 := hid hy2
  obtain ⟨a1, e1, rfl, p1, p2, -⟩ := cl_cells hx2
  obtain ⟨a3, e3, rfl, -, -, -⟩ := zs_cells hy2
  obtain ⟨a2, e2, rfl, hm⟩ := hx.form
  clear hx2 hy2 hx hok
  go_enter Tryd.func28, Tryd.ntmps28
  go_upto_region 1 with fail
  have hb := (Below.refl w.heap.size w).alloc (Nat.le_refl _) (.cells #[.int .i64 T.id, .string ⟨T.name.toArray⟩, .slice a1 T.cols.length e1, .slice a3 T.key.length e3] 25)
  have hz := heap_alloc_new w (.cells #[.int .i64 T.id, .string ⟨T.name.toArray⟩, .slice a1 T.cols.length e1, .slice a3 T.key.length e3] 25)
  generalize w.alloc (.cells #[.int .i64 T.id, .string ⟨T.name.toArray⟩, .slice a1 T.cols.length e1, .slice a3 T.key.length e3] 25) = w1 at *
  have HB := hid hb
  have z0 := cell_in hz 0 _ rfl
  have z1 := cell_in hz 1 _ rfl
  have z2 := cell_in hz 2 _ rfl
  have z3 := cell_in hz 3 _ rfl
  clear hb hz
  have CC := hid (checkRow_ok (H0.out.old HB.out) (HX.out.old HB.out) HOK.out)
  have HPL : Hid (PlOk T.key r.length) := hid (by rw [HOK.out.1]; exact hp)
  have CW := fun W => wrap_nil ⟨#[107, 101, 121]⟩ W
  go_upto_region 5 with (first
    | (go_at_call 38; refine CC.out.mono ?_; rintro en w2 ⟨rfl, hb2⟩; have HB2 := hid (below_step HB.out hb2); have q3 := (hb2.cell (block_cell z3)).trans z3; have CP := hid (pickV_ok (HX.out.old HB2.out) (HY2.out.old HB2.out) HPL.out hl); clear z0 z1 z2 z3 hb2)
    | (go_at_call 44; refine CP.out.mono ?_; rintro en w3 ⟨v3, rfl, ho3, hb3⟩; have HB3 := hid (below_step HB2.out hb3); have HO3 := hid (ownsRow_base ho3 HB2.out.size); clear ho3 hb3 q3))
  go_wp2_with (first | (go_at_call 45; refine (CW _).mono ?_; rintro en w4 ⟨rfl, rfl⟩))
  go_ret2
  exact ⟨_, rfl, HO3.out, HB3.out⟩

theorem zrd_form {w : World} {x : Value} {l : List UInt8} (h : Rd w x l) : ∃ a c, x = .slice a l.length c := by
  obtain ⟨a, c, e, -⟩ := h
  exact ⟨a, c, e⟩
theorem zown_rd {w : World} {v : Value} {B : Nat} {l : List UInt8} (h : w.ownsRow B 5 1 v l.length (l.map bv)) : ∃ a c, v = .slice a l.length c ∧ Rd w (.slice a l.length c) l := by
  have h1 := Rd.own h
  obtain ⟨a, c, rfl⟩ := zrd_form h1
  exact ⟨a, c, rfl, h1⟩

theorem cat2_any {w : World} {a1 a2 : Option Addr} {c1 c2 : Nat} {l1 l2 : List UInt8} (h1 : Rd w (.slice a1 l1.length c1) l1) (h2 : Rd w (.slice a2 l2.length c2) l2) (hl : l1.length + l2.length ≤ 1000000) :
    Calls Tryd.prog 57 #[.slice (some ⟨w.heap.size, 0, none⟩) 2 2] (w.alloc (.cells #[.slice a1 l1.length c1, .slice a2 l2.length c2] 32))
      (fun e w' => ∃ v, e = .returned v ∧ w'.ownsRow w.heap.size 5 1 v (l1 ++ l2).length ((l1 ++ l2).map bv) ∧ Below w.heap.size w w') := by
  have hb := bss_lit (w := w) [⟨a1, c1, l1⟩, ⟨a2, c2, l2⟩] (by simp) (fun r hr => by
    rcases List.mem_cons.1 hr with rfl | hr
    · exact h1
    · obtain rfl := List.mem_singleton.1 hr; exact h2)
  have ha := (Below.refl w.heap.size w).alloc (Nat.le_refl _) (.cells #[.slice a1 l1.length c1, .slice a2 l2.length c2] 32)
  refine (concat_any (some ⟨w.heap.size, 0, none⟩) 2 2 [⟨a1, c1, l1⟩, ⟨a2, c2, l2⟩] _ rfl hb (by simp [ccB]; omega) (by omega)).mono ?_
  rintro e w' ⟨v, rfl, ho, hb2⟩
  have h9 := ownsRow_base ho ha.size
  simp only [List.flatMap_cons, List.flatMap_nil, List.append_nil] at h9
  exact ⟨v, rfl, h9, below_step ha hb2⟩

/-- What all keys of a table, or of an index, begin with. -/
def headB (m : Int) (id : Int) : List UInt8 := UInt8.ofNat m.toNat :: encL [⟨1, id, []⟩]
theorem headB_len (m id : Int) : (headB m id).length ≤ 44 := by
  have h := encL_len (l := [⟨1, id, []⟩]) (fun v hv => by rw [List.mem_singleton.1 hv]; exact Or.inr (Or.inl ⟨rfl, rfl⟩))
  unfold headB
  simp at h ⊢
  omega
theorem bv_mark {m : Int} (h0 : 0 ≤ m) (h1 : m < 256) : bv (UInt8.ofNat m.toNat) = .int .u8 m := by
  unfold bv
  congr 1
  rw [UInt8.toNat_ofNat']
  omega

theorem zrd_one {w : World} {b : Nat} {c : UInt8} {t : TypeId} (h : w.heap[b]? = some (.cells #[bv c] t (0, 0))) : Rd w (.slice (some ⟨b, 0, none⟩) 1 1) [c] := by
  refine ⟨some ⟨b, 0, none⟩, 1, rfl, by simp, by unfold maxLen; omega, (fun e => by cases e), fun a ha j u hu => ?_⟩
  cases ha
  cases j with
  | zero =>
    simp at hu
    subst hu
    exact cell_in h 0 _ rfl
  | succ j => simp at hu

set_option maxHeartbeats 2000000 in
theorem head_any (w : World) (m id : Int) (h0 : 0 ≤ m) (h1 : m < 256) (hi : i64 id) : Calls Tryd.prog 34 #[.int .u8 m, .int .i64 id] w (Gives 5 w (headB m id)) := by
  have hv1 := Vs.one (t := 44) (v := ⟨1, id, []⟩) (heap_alloc_new w (.cells #[.int .i64 1, .int .i64 id, .string ⟨#[]⟩] 44))
  have hok : ∀ v ∈ [(⟨1, id, []⟩ : Vl)], okV v := fun v hv => by rw [List.mem_singleton.1 hv]; exact Or.inr (Or.inl ⟨rfl, rfl⟩)
  have CE := hid (enc_any _ _ _ hv1 (fun v hv => by rw [List.mem_singleton.1 hv]; exact hi) (by simp))
  have HB1 := hid ((Below.refl w.heap.size w).alloc (Nat.le_refl _) (.cells #[.int .i64 1, .int .i64 id, .string ⟨#[]⟩] 44))
  have HE := hid (encE_ok hok (by simp))
  have hL := headB_len m id
  have hB : headB m id = [UInt8.ofNat m.toNat] ++ encL [⟨1, id, []⟩] := rfl
  rw [hB] at hL ⊢
  have HM := hid (bv_mark h0 h1)
  generalize UInt8.ofNat m.toNat = mb at *
  have HL := hid hL
  clear hv1 hok hL hB h0 h1 hi
  go_enter Tryd.func34, Tryd.ntmps34
  go_upto_region 2 with (first | (go_at_call 56; refine CE.out.mono ?_; rintro en w2 h2; obtain ⟨ao, c, rfl, ho2, hb2⟩ := h2.elim; rw [HE.out.1]; rw [HE.out.2] at ho2 ⊢; have HO2 := hid (Rd.own ho2); have HB2 := hid (below_step HB1.out hb2); clear h2 ho2 hb2))
  generalize encL [⟨1, id, []⟩] = L at *
  have HBA := hid (HB2.out.alloc HB2.out.size (.cells #[.int .u8 m] 5))
  have hR1 := zrd_one (c := mb) (by rw [HM.out]; exact heap_alloc_new w2 (.cells #[.int .u8 m] 5))
  have hR2 := HO2.out.alloc (.cells #[.int .u8 m] 5)
  have hsz : (w2.alloc (.cells #[.int .u8 m] 5)).heap.size = w2.heap.size + 1 := by simp
  have cc := cat2_any (l1 := [mb]) hR1 hR2 (by have := HL.out; simp at this ⊢; omega)
  rw [hsz] at cc
  have CC := hid cc
  have HS := hid hsz
  clear cc hR1 hR2 hsz
  go_wp2_with (first | (go_at_call 57; refine CC.out.mono ?_; rintro en w3 ⟨v3, rfl, ho3, hb3⟩))
  go_ret
  exact ⟨_, rfl, ownsRow_base ho3 (by have := HB2.out.size; omega), HBA.out.trans (hb3.mono (by have := HB2.out.size; omega))⟩

set_option maxHeartbeats 2000000 in
theorem behind_ok {w : World} {x y : Value} {p : List UInt8} {l : List Vl} (hx : Rd w x p) (hy : Vs w y l) (hin : ∀ v ∈ l, inV v) (hok : ∀ v ∈ l, okV v) (hl : l.length ≤ 16) (hp : p.length ≤ 1000) :
    Calls Tryd.prog 47 #[x, y] w (fun e w' => ∃ v, e = .returned (.tuple #[v, .nilIface]) ∧ w'.ownsRow w.heap.size 5 1 v (p ++ encL l).length ((p ++ encL l).map bv) ∧ Below w.heap.size w w') := by
  have CE := hid (enc_any _ _ _ hy hin (by omega))
  have HE := hid (encE_ok hok (by omega))
  have hL := encL_len hok
  have HX := hid hx
  obtain ⟨a1, c1, rfl⟩ := zrd_form hx
  obtain ⟨a2, c2, rfl, -⟩ := hy.form
  have HL : Hid (p.length + (encL l).length ≤ 1000000) := hid (by omega)
  clear hx hy hin hok hL
  go_enter Tryd.func47, Tryd.ntmps47
  go_upto_region 2 with (first | (go_at_call 56; refine CE.out.mono ?_; rintro en w2 h2; obtain ⟨ao, c, rfl, ho2, hb2⟩ := h2.elim; rw [HE.out.1]; rw [HE.out.2] at ho2 ⊢; have HO2 := hid (Rd.own ho2); have HB2 := hid hb2; clear h2 ho2 hb2))
  have CC := hid (cat2_any (HX.out.old HB2.out) HO2.out HL.out)
  go_wp2_with (first | (go_at_call 57; refine CC.out.mono ?_; rintro en w3 ⟨v3, rfl, ho3, hb3⟩))
  go_ret2
  exact ⟨_, rfl, ownsRow_base ho3 HB2.out.size, below_step HB2.out hb3⟩

set_option maxHeartbeats 2000000 in
theorem behind_bad {w : World} {x y : Value} {l : List Vl} (hw : 0 < w.heap.size) (hy : Vs w y l) (hin : ∀ v ∈ l, inV v) (hl : l.length ≤ 1000000) (hbad : encE l ≠ 0) :
    Calls Tryd.prog 47 #[x, y] w (fun e w' => ∃ T b, e = .returned (.tuple #[.slice none 0 0, .iface T b]) ∧ Chain w' [⟨#[118, 97, 108, 117, 101, 115]⟩] (.code 9) (.iface T b) ∧ Below w.heap.size w w') := by
  have CE := hid (enc_any _ _ _ hy hin (by omega))
  obtain ⟨a2, c2, rfl, -⟩ := hy.form
  have hb9 : (encE l == 0) = false := by simpa using hbad
  have HW := hid hw
  clear hy hin hw
  go_enter Tryd.func47, Tryd.ntmps47
  go_upto_region 2 with (first | (go_at_call 56; refine CE.out.mono ?_; rintro en w2 h2; obtain ⟨ao, c, rfl, ho2, hb2⟩ := h2.elim; have HB2 := hid hb2; clear h2 ho2 hb2))
  have CN := fun W => new_any 9 (by decide) ⟨#[118, 97, 108, 117, 101, 115]⟩ W
  go_wp2_with (first | (go_at_call 52; refine (CN _).mono ?_; rintro en w3 ⟨rfl, rfl⟩))
  go_ret2
  exact ⟨_, _, rfl, Chain.first 9 (by have := HB2.out.size; have := HW.out; omega) _, HB2.out.alloc HB2.out.size _⟩

def nameL (T : Tab) (k : List Vl) : List UInt8 := headB 114 T.id ++ encL k

set_option maxHeartbeats 2000000 in
theorem nameOf_ok {N : Nat → Prop} {w : World} {cs : List Value} {T : Tab} (h : TabN N w cs T) (hi : i64 T.id) (hp : PlOk T.key T.cols.length) (hl : T.key.length ≤ 16) {x : Value} {k : List Vl} (hx : Vs w x k) (hin : ∀ v ∈ k, inV v) (hok : KeyOk T k) :
    Calls Tryd.prog 27 #[.agg cs.toArray, x] w (fun e w' => ∃ v, e = .returned (.tuple #[v, .nilIface]) ∧ w'.ownsRow w.heap.size 5 1 v (nameL T k).length ((nameL T k).map bv) ∧ Below w.heap.size w w') := by
  have H0 := hid h
  have HOK := hid hok
  have HX := hid hx
  have HIN := hid hin
  have hki : ∀ v ∈ k, okV v := fun v hv => by
    obtain ⟨i, hv1⟩ := List.getElem?_of_mem hv
    have h2 := (List.getElem?_eq_some_iff.1 hv1).1
    exact (hok.2 i _ v (List.getElem?_eq_getElem (by rw [← hok.1]; exact h2)) hv1).1
  have HKI := hid hki
  have HKL : Hid (k.length ≤ 16) := hid (by rw [hok.1]; exact hl)
  obtain ⟨x2, y2, rfl, ⟨hx2, -⟩, ⟨hy2, -⟩, -, -⟩ := h
  obtain ⟨a1, e1, rfl, p1, p2, -⟩ := cl_cells hx2
  obtain ⟨a3, e3, rfl, -, -, -⟩ := zs_cells hy2
  obtain ⟨a2, e2, rfl, hm⟩ := hx.form
  clear hx2 hy2 hx hok hin hki
  go_enter Tryd.func27, Tryd.ntmps27
  go_upto_region 1 with fail
  have hb := (Below.refl w.heap.size w).alloc (Nat.le_refl _) (.cells #[.int .i64 T.id, .string ⟨T.name.toArray⟩, .slice a1 T.cols.length e1, .slice a3 T.key.length e3] 25)
  have hz := heap_alloc_new w (.cells #[.int .i64 T.id, .string ⟨T.name.toArray⟩, .slice a1 T.cols.length e1, .slice a3 T.key.length e3] 25)
  generalize w.alloc (.cells #[.int .i64 T.id, .string ⟨T.name.toArray⟩, .slice a1 T.cols.length e1, .slice a3 T.key.length e3] 25) = w1 at *
  have HB := hid hb
  have z0 := cell_in hz 0 _ rfl
  have z1 := cell_in hz 1 _ rfl
  have z2 := cell_in hz 2 _ rfl
  have z3 := cell_in hz 3 _ rfl
  clear hb hz
  have CC := hid (checkKey_ok (H0.out.old HB.out) hp (by omega) (HX.out.old HB.out) HOK.out)
  have CW := fun W => wrap_nil ⟨#[110, 97, 109, 101]⟩ W
  go_upto_region 5 with (first
    | (go_at_call 54; refine CC.out.mono ?_; rintro en w2 ⟨rfl, hb2⟩; have HB2 := hid (below_step HB.out hb2); have q0 := (hb2.cell (block_cell z0)).trans z0; have CH := hid (head_any w2 114 T.id (by decide) (by decide) hi); clear z0 z1 z2 z3 hb2)
    | (go_at_call 34; refine CH.out.mono ?_; rintro en w3 ⟨v3, rfl, ho3, hb3⟩; have HB3 := hid (below_step HB2.out hb3); have CB := hid (behind_ok (Rd.own ho3) (HX.out.old HB3.out) HIN.out HKI.out HKL.out (by have := headB_len 114 T.id; omega)); clear ho3 hb3)
    | (go_at_call 47; refine CB.out.mono ?_; rintro en w4 ⟨v4, rfl, ho4, hb4⟩; have HB4 := hid (below_step HB3.out hb4); have HO4 := hid (ownsRow_base ho4 HB3.out.size); clear ho4 hb4))
  go_wp2_with (first | (go_at_call 45; refine (CW _).mono ?_; rintro en w5 ⟨rfl, rfl⟩))
  go_ret2
  exact ⟨_, rfl, HO4.out, HB4.out⟩
end Go.Proofs.YtpdmocdfnakggaaDoor

set_option linter.unusedVariables false
set_option linter.unusedSimpArgs false
set_option maxRecDepth 100000
namespace Go.Proofs.YtpdmocdfnakggaaDoor
open Go.RowKit Go.Deep

theorem colsB_at {l : List Col} {k : Nat} {c : Col} (h : l[k]? = some c) : colsB (l.take k) (l.drop k) = (colB (l.take k) c && colsB (l.take (k + 1)) (l.drop (k + 1))) := by
  obtain ⟨hk, rfl⟩ := List.getElem?_eq_some_iff.1 h
  rw [List.drop_eq_getElem_cons hk, colsB, List.take_add_one, List.getElem?_eq_getElem hk]
  rfl
theorem any_take {α : Type} {p : α → Bool} {s : List α} {k : Nat} {c : α} (h : s[k]? = some c) (ha : (s.take k).any p = false) : (s.take (k + 1)).any p = p c := by
  rw [List.take_add_one, h, List.any_append, ha]; simp
theorem all_take' {α : Type} {p : α → Bool} {s : List α} {k : Nat} {c : α} (h : s[k]? = some c) (ha : (s.take k).all p = true) : (s.take (k + 1)).all p = p c := by
  rw [List.take_add_one, h, List.all_append, ha]; simp
theorem plcs_in {n : Int} : ∀ {l p : List Int}, plcs n p l = true → ∀ z ∈ l, 0 ≤ z ∧ z < n
  | [], p, _, z, hz => by cases hz
  | y :: r, p, h, z, hz => by
    simp only [plcs, Bool.and_eq_true, Bool.not_eq_true', Bool.or_eq_false_iff, decide_eq_false_iff_not] at h
    rcases List.mem_cons.1 hz with rfl | hz
    · omega
    · exact plcs_in h.2 z hz
theorem getElem?_taken {α : Type} {l : List α} {k i : Nat} (h : i < k) : (l.take k)[i]? = l[i]? := by rw [List.getElem?_take]; simp [h]

set_option maxHeartbeats 8000000 in
theorem rTableRight_any {N : Nat → Prop} {w : World} {cs : List Value} {t : Tab} (h : TabN N w cs t) (hw : t.W) : Calls Tryd.prog 40 #[.agg cs.toArray] w (fun e w' => e = .returned (.bool (tabB t)) ∧ Below w.heap.size w w') := by
  obtain ⟨x, y, rfl, ⟨hx, -⟩, ⟨hy, -⟩, -, -⟩ := h
  obtain ⟨-, hn, hcl, hkl, -, -⟩ := hw
  obtain ⟨ao, c, rfl, h1, h2, hc⟩ := cl_cells hx
  obtain ⟨ko, d, rfl, g1, g2, gc⟩ := zs_cells hy
  have hlm : t.cols.length ≤ 9223372036854775807 := by unfold maxLen at h2; omega
  have hkm : t.key.length ≤ 9223372036854775807 := by unfold maxLen at g2; omega
  have HC := hid hc
  have HK := hid gc
  have HY := hid hy
  have HCL := hid hcl
  have HN := hid hn
  clear hx hy hc gc hcl hkl hn
  go_enter Tryd.func40, Tryd.ntmps40
  go_upto_region 1 with fail
  have hb := (Below.refl w.heap.size w).alloc (Nat.le_refl _) (.cells #[.int .i64 t.id, .string ⟨t.name.toArray⟩, .slice ao t.cols.length c, .slice ko t.key.length d] 25)
  have hz := heap_alloc_new w (.cells #[.int .i64 t.id, .string ⟨t.name.toArray⟩, .slice ao t.cols.length c, .slice ko t.key.length d] 25)
  generalize w.alloc (.cells #[.int .i64 t.id, .string ⟨t.name.toArray⟩, .slice ao t.cols.length c, .slice ko t.key.length d] 25) = w1 at *
  have HB := hid hb
  have HZ := hid hz
  clear hb hz
  have z1 := cell_in HZ.out 1 _ rfl
  have z2 := cell_in HZ.out 2 _ rfl
  have z3 := cell_in HZ.out 3 _ rfl
  have CN := fun W => rName_any W t.name HN.out
  have CP := hid (rPlaces_any w1 (HY.out.old HB.out) (t.cols.length : Int))
  generalize hnb : nameB t.name = nb at *
  generalize hpb : placesB t.key (t.cols.length : Int) = pb at *
  have HTB : Hid (tabB t = (nb && decide (1 ≤ t.cols.length) && decide (t.cols.length ≤ 6) && pb && colsB [] t.cols && t.key.all (fun z => !(colAt t.cols z).null))) := hid (by unfold tabB; rw [hnb, hpb])
  have HPB := hid hpb
  clear hnb hpb
  cases nb with
  | false =>
    have HR : Hid (tabB t = false) := hid (by rw [HTB.out]; rfl)
    go_wp2_with (first | (go_at_call 42; refine (CN _).mono ?_; rintro en w2 ⟨rfl, rfl⟩))
    go_ret
    exact ⟨by rw [HR.out]; rfl, HB.out⟩
  | true =>
  by_cases a1 : 1 ≤ t.cols.length
  case neg =>
    have a2 : t.cols.length = 0 := by omega
    have a3 : (t.cols.length : Int) < 1 := by omega
    have HR : Hid (tabB t = false) := hid (by rw [HTB.out]; simp [a1])
    go_wp2_with (first | (go_at_call 42; refine (CN _).mono ?_; rintro en w2 ⟨rfl, rfl⟩))
    go_ret
    exact ⟨by rw [HR.out]; rfl, HB.out⟩
  have a1' : ¬ (t.cols.length : Int) < 1 := by omega
  by_cases a2 : t.cols.length ≤ 6
  case neg =>
    have a3 : (6 : Int) < (t.cols.length : Int) := by omega
    have HR : Hid (tabB t = false) := hid (by rw [HTB.out]; simp [a2])
    go_wp2_with (first | (go_at_call 42; refine (CN _).mono ?_; rintro en w2 ⟨rfl, rfl⟩))
    go_ret
    exact ⟨by rw [HR.out]; rfl, HB.out⟩
  have a2' : ¬ (6 : Int) < (t.cols.length : Int) := by omega
  cases pb with
  | false =>
    have HR : Hid (tabB t = false) := hid (by rw [HTB.out]; simp)
    go_wp2_with (first | (go_at_call 42; refine (CN _).mono ?_; rintro en w2 ⟨rfl, rfl⟩) | (go_at_call 43; refine CP.out.mono ?_; rintro en w2 ⟨rfl, hb2⟩; have HB2 := hid (below_step HB.out hb2); clear hb2))
    go_ret
    exact ⟨by rw [HR.out]; rfl, HB2.out⟩
  | true =>
  have HTC : Hid (tabB t = (colsB [] t.cols && t.key.all (fun z => !(colAt t.cols z).null))) := hid (by rw [HTB.out]; simp [a1, a2])
  have HPI := hid (plcs_in (show plcs (t.cols.length : Int) [] t.key = true by have := HPB.out; unfold placesB at this; simp only [Bool.and_eq_true] at this; exact this.1.1))
  clear HTB HPB
  have HZ1 := hid fun (W : World) (hW : Below w1.heap.size w1 W) => (hW.block _ (lt_of_block HZ.out)).trans HZ.out
  go_wp2_with (first | (go_at_call 42; refine (CN _).mono ?_; rintro en w2 ⟨rfl, rfl⟩) | (go_at_call 43; refine CP.out.mono ?_; rintro en w2 ⟨rfl, hb2⟩; have HB2 := hid hb2; clear hb2))
  clear z1 z2 z3 CN CP
  have HQ : Hid (∀ q, Below w2.heap.size w2 (w2.drewN q)) := hid fun q => below_drewN w2 q
  go_loopw [3] (fun j wr => ∃ k : Nat, k ≤ t.cols.length ∧ j = .int .i64 (k : Int) ∧ Below w1.heap.size w1 wr ∧ colsB (t.cols.take k) (t.cols.drop k) = colsB [] t.cols)
    (fun j _ => t.cols.length - (intOf j).toNat)
  case atStart => exact ⟨0, by omega, rfl, HB2.out, rfl⟩
  case round =>
    obtain ⟨k, hk, rfl, hbr, hcr⟩ := hrel
    have HBR := hid hbr
    have HCR := hid hcr
    have HBA := hid (below_step HB.out hbr)
    clear hbr hcr HB2 HQ
    have y1 := cell_in (HZ1.out _ HBR.out) 1 _ rfl
    have y2 := cell_in (HZ1.out _ HBR.out) 2 _ rfl
    have y3 := cell_in (HZ1.out _ HBR.out) 3 _ rfl
    by_cases hlt : k < t.cols.length
    · obtain ⟨u, hu⟩ : ∃ u, t.cols[k]? = some u := ⟨_, List.getElem?_eq_getElem hlt⟩
      obtain ⟨b, off, rfl, c0, c1, c2⟩ := HC.out k u hu
      have hki : (k : Int) < (t.cols.length : Int) := by omega
      have k0 := (HBA.out.cell (block_cell c0)).trans c0
      have k1 := (HBA.out.cell (block_cell c1)).trans c1
      have k2 := (HBA.out.cell (block_cell c2)).trans c2
      clear c0 c1 c2
      have HU := hid hu
      clear hu
      go_upto_region 7 with fail
      have hb3 := (Below.refl wr.heap.size wr).alloc (Nat.le_refl _) (.cells #[.string ⟨u.name.toArray⟩, .int .i64 u.kind, .bool u.null] 58)
      have hz3 := heap_alloc_new wr (.cells #[.string ⟨u.name.toArray⟩, .int .i64 u.kind, .bool u.null] 58)
      generalize wr.alloc (.cells #[.string ⟨u.name.toArray⟩, .int .i64 u.kind, .bool u.null] 58) = w3 at *
      have HB3 := hid hb3
      have HZ3 := hid hz3
      have HBA3 := hid (below_step HBA.out hb3)
      have HBR3 := hid (below_step HBR.out hb3)
      clear hb3 hz3 y1 y2 y3 k0 k1 k2
      have v0 := cell_in HZ3.out 0 _ rfl
      have v1 := cell_in HZ3.out 1 _ rfl
      have CN := fun W => rName_any W u.name (HCL.out u (List.mem_of_getElem? HU.out)).1
      have HCB : Hid (colsB [] t.cols = (colB (t.cols.take k) u && colsB (t.cols.take (k + 1)) (t.cols.drop (k + 1)))) := hid (by rw [← HCR.out]; exact colsB_at HU.out)
      have HNO : Hid (colB (t.cols.take k) u = false → tabB t = false) := hid (fun e => by rw [HTC.out, HCB.out, e]; rfl)
      go_cut [57] from 44 to 57 (fun s wx => ∃ q : Bool, s = .bool q ∧ wx = w3 ∧ Hid (colB (t.cols.take k) u = (!q && !((t.cols.take k).any fun d => decide (d.name = u.name)))))
      case first =>
        generalize hnb : nameB u.name = nb at *
        have HCO : Hid (colB (t.cols.take k) u = (nb && (decide (u.kind = 1) || decide (u.kind = 2)) && !((t.cols.take k).any fun d => decide (d.name = u.name)))) := hid (by unfold colB; rw [hnb])
        clear hnb
        cases nb with
        | false =>
          go_wp2_with (first | (go_at_call 42; refine (CN _).mono ?_; rintro en w4 ⟨rfl, rfl⟩))
          go_meet
          exact ⟨true, rfl, rfl, HCO⟩
        | true =>
          by_cases e1 : u.kind = 1
          · have f1 : (u.kind != 1) = false := by simp [e1]
            have HCA : Hid (colB (t.cols.take k) u = (!false && !((t.cols.take k).any fun d => decide (d.name = u.name)))) := hid (by rw [HCO.out, e1]; rfl)
            clear e1
            go_wp2_with (first | (go_at_call 42; refine (CN _).mono ?_; rintro en w4 ⟨rfl, rfl⟩))
            go_meet
            exact ⟨false, rfl, rfl, HCA⟩
          · have f1 : (u.kind != 1) = true := by simp [e1]
            by_cases e2 : u.kind = 2
            · have f2 : (u.kind != 2) = false := by simp [e2]
              have HCA : Hid (colB (t.cols.take k) u = (!false && !((t.cols.take k).any fun d => decide (d.name = u.name)))) := hid (by rw [HCO.out, e2]; rfl)
              clear e1 e2
              go_wp2_with (first | (go_at_call 42; refine (CN _).mono ?_; rintro en w4 ⟨rfl, rfl⟩))
              go_meet
              exact ⟨false, rfl, rfl, HCA⟩
            · have f2 : (u.kind != 2) = true := by simp [e2]
              have HCA : Hid (colB (t.cols.take k) u = (!true && !((t.cols.take k).any fun d => decide (d.name = u.name)))) := hid (by rw [HCO.out]; simp [e1, e2])
              clear e1 e2
              go_wp2_with (first | (go_at_call 42; refine (CN _).mono ?_; rintro en w4 ⟨rfl, rfl⟩))
              go_meet
              exact ⟨true, rfl, rfl, HCA⟩
      case rest =>
      obtain ⟨q, rfl, hwc, HCA⟩ := hcut
      rw [hwc]; clear hwc CN
      cases q with
      | true =>
        have HR := hid (HNO.out (by rw [HCA.out]; rfl))
        go_wp2_with fail
        go_ret
        exact ⟨by rw [HR.out]; rfl, HBA3.out⟩
      | false =>
      go_wp2_with fail
      go_loopw [5] (fun j wr2 => ∃ i : Nat, i ≤ k ∧ j = .int .i64 (i : Int) ∧ Below w3.heap.size w3 wr2 ∧ ((t.cols.take k).take i).any (fun d => decide (d.name = u.name)) = false)
        (fun j _ => k - (intOf j).toNat)
      case atStart => exact ⟨0, by omega, rfl, Below.refl _ _, rfl⟩
      case round =>
        obtain ⟨i, hi, rfl, hb2, ha2⟩ := hrel
        have HB2 := hid hb2
        have HA2 := hid ha2
        have HBA2 := hid (below_step HBA3.out hb2)
        have HBR2 := hid (below_step HBR3.out hb2)
        clear hb2 ha2 v0 v1
        have y2 := cell_in (HZ1.out _ HBR2.out) 2 _ rfl
        have v0 := cell_in ((HB2.out.block _ (lt_of_block HZ3.out)).trans HZ3.out) 0 _ rfl
        by_cases hik : i < k
        · obtain ⟨d2, hd2⟩ : ∃ d2, t.cols[i]? = some d2 := ⟨_, List.getElem?_eq_getElem (by omega)⟩
          obtain ⟨b', off', hbo, c0, -, -⟩ := HC.out i d2 hd2
          cases hbo
          have k0 := (HBA2.out.cell (block_cell c0)).trans c0
          have hil : (i : Int) < (t.cols.length : Int) := by omega
          have hba := ba_eq d2.name u.name
          have HT := hid (any_take (p := fun d => decide (d.name = u.name)) (show (t.cols.take k)[i]? = some d2 by rw [getElem?_taken hik]; exact hd2) HA2.out)
          have HD2 : Hid ((d2.name == u.name) = true → (t.cols.take k).any (fun d => decide (d.name = u.name)) = true) := hid (fun e => by
            rw [List.any_eq_true]; exact ⟨d2, List.mem_of_getElem? (by rw [getElem?_taken hik]; exact hd2), by simpa using e⟩)
          clear c0 hd2
          go_upto_region 12 with fail
          clear hba
          go_quiet (fail)
          cases hqq : (d2.name == u.name) with
          | true =>
            have HR := hid (HNO.out (by rw [HCA.out, HD2.out hqq]; rfl))
            go_wp2_with fail
            go_ret
            exact ⟨by rw [HR.out]; rfl, below_step HBA2.out (below_drewN _ _)⟩
          | false =>
            have HQQ := hid hqq
            go_wp2_with fail
            go_roundw
            case rel => exact ⟨i + 1, by omega, by go_num, below_step HB2.out (below_drewN _ _), by rw [HT.out]; have := HQQ.out; simpa using this⟩
            case measure => simp [intOf]; omega
        · obtain rfl : i = k := by omega
          have HAN : Hid ((t.cols.take i).any (fun d => decide (d.name = u.name)) = false) := hid (by have := HA2.out; rwa [List.take_take, Nat.min_self] at this)
          go_wp2_with fail
          go_roundw
          case rel => exact ⟨i + 1, by omega, by go_num, HBR2.out, by rw [HCB.out, HCA.out, HAN.out]; rfl⟩
          case measure => simp [intOf]; omega
    · obtain rfl : k = t.cols.length := by omega
      rw [List.take_length, List.drop_length] at HCR
      have HTK : Hid (tabB t = t.key.all (fun z => !(colAt t.cols z).null)) := hid (by rw [HTC.out, ← HCR.out]; rfl)
      clear HTC HCR
      go_wp2_with fail
      go_loopw [6] (fun j wr2 => ∃ m : Nat, m ≤ t.key.length ∧ j = .int .i64 (m : Int) ∧ Below wr.heap.size wr wr2 ∧ (t.key.take m).all (fun z => !(colAt t.cols z).null) = true)
        (fun j _ => t.key.length - (intOf j).toNat)
      case atStart => exact ⟨0, by omega, rfl, Below.refl _ _, rfl⟩
      case round =>
        obtain ⟨m, hm, rfl, hb2, ha2⟩ := hrel
        have HB2 := hid hb2
        have HA2 := hid ha2
        have HBA2 := hid (below_step HBA.out hb2)
        have HBR2 := hid (below_step HBR.out hb2)
        clear hb2 ha2 y1 y2 y3
        have y2 := cell_in (HZ1.out _ HBR2.out) 2 _ rfl
        have y3 := cell_in (HZ1.out _ HBR2.out) 3 _ rfl
        by_cases hml : m < t.key.length
        · obtain ⟨z, hz⟩ : ∃ z, t.key[m]? = some z := ⟨_, List.getElem?_eq_getElem hml⟩
          obtain ⟨kb, ko', rfl, kc⟩ := HK.out m z hz
          obtain ⟨hz0, hz1⟩ := HPI.out z (List.mem_of_getElem? hz)
          obtain ⟨zn, rfl⟩ : ∃ zn : Nat, z = (zn : Int) := ⟨z.toNat, by omega⟩
          have hzl : zn < t.cols.length := by omega
          obtain ⟨d2, hd2⟩ : ∃ d2, t.cols[zn]? = some d2 := ⟨_, List.getElem?_eq_getElem hzl⟩
          obtain ⟨b, off, rfl, -, -, c2⟩ := HC.out zn d2 hd2
          have k0 := (HBA2.out.cell (block_cell kc)).trans kc
          have k2 := (HBA2.out.cell (block_cell c2)).trans c2
          have hmi : (m : Int) < (t.key.length : Int) := by omega
          have HCT : Hid (colAt t.cols (zn : Int) = d2) := hid (by unfold colAt; simp [List.getD, hd2])
          have HT := hid (all_take' (p := fun z => !(colAt t.cols z).null) hz HA2.out)
          have HF : Hid (d2.null = true → tabB t = false) := hid (fun e => by
            rw [HTK.out, List.all_eq_false]; exact ⟨_, List.mem_of_getElem? hz, by rw [HCT.out, e]; simp⟩)
          clear kc c2 hz hd2
          go_upto_region 17 with fail
          go_quiet (fail)
          cases hnl : d2.null with
          | true =>
            have HR := hid (HF.out hnl)
            go_wp2_with fail
            go_ret
            exact ⟨by rw [HR.out]; rfl, below_step HBA2.out (below_drewN _ _)⟩
          | false =>
            have HNL := hid hnl
            go_wp2_with fail
            go_roundw
            case rel => exact ⟨m + 1, by omega, by go_num, below_step HB2.out (below_drewN _ _), by rw [HT.out, HCT.out, HNL.out]; rfl⟩
            case measure => simp [intOf]; omega
        · obtain rfl : m = t.key.length := by omega
          rw [List.take_length] at HA2
          go_wp2_with fail
          go_ret
          exact ⟨by rw [HTK.out, HA2.out]; rfl, HBA2.out⟩
end Go.Proofs.YtpdmocdfnakggaaDoor

