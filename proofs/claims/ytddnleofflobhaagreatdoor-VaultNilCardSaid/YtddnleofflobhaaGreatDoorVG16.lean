import Derived.Test.YtddnleofflobhaaGreatDoorRows
import Derived.WalkKit
import Derived.WalkSpells
import Derived.WalkLawsBesides
import Derived.Laws.AppendOwnNone
import Derived.BigQuiet
import Derived.Deep.QuietTactic
import Derived.Deep.MidRow
import Derived.Laws.MakeOwn
import Derived.Deep.CutBlock
import Derived.Deep.CutRange
import Derived.Sort.CutIn
import Derived.RangeFuncNested
import Derived.RangeFuncBound
import Derived.RangeFuncCalls
import Derived.RangeFuncLeaves
import Derived.RangeFuncBox
import Derived.Shelf.Abstract
import Derived.Shelf.RegionOpen
import Derived.OwnWalkIn
import Derived.TacticsInMore
import Derived.LoopNIn
import Derived.LoopIn
import Derived.OrdersIn
import Derived.LaidEql
import Derived.Stop.Asserts
import Derived.RowKitTokens
import Derived.Lib.Bytes
import Derived.Deep.RegionHeld3
import Derived.Deep.WholeRow
import Derived.BigRegion
import Derived.Great.BuildSlice
import Derived.Deep.AppendLies
import Derived.StillTailTactics
import Derived.Deep.RegionLaw
import Derived.Great.FillDense
import Derived.Laws.Tables
import Derived.LoopN
import Derived.Deep.OwnRows
import Derived.OwnWalk
import Derived.Deep.Slices
import Derived.OpenShut
import Derived.Deep.RegionWith
import Derived.ArgAppend
import Derived.Lib.SliceRun
import Derived.Deep.RegionHeldLaw
import Derived.Deep.LoopGhost
import Derived.Test.YtddnleofflobhaaGreatDoorVG1
import Derived.Test.YtddnleofflobhaaGreatDoorVG2
import Derived.Test.YtddnleofflobhaaGreatDoorVG3
import Derived.Test.YtddnleofflobhaaGreatDoorVG4
import Derived.Test.YtddnleofflobhaaGreatDoorVG5
import Derived.Test.YtddnleofflobhaaGreatDoorVG6
import Derived.Test.YtddnleofflobhaaGreatDoorVG7
import Derived.Test.YtddnleofflobhaaGreatDoorVG8
import Derived.Test.YtddnleofflobhaaGreatDoorVG9
import Derived.Test.YtddnleofflobhaaGreatDoorVG14
import Derived.Test.YtddnleofflobhaaGreatDoorVG15
set_option linter.unusedVariables false
set_option linter.unusedSimpArgs false
set_option linter.unusedVariables false
set_option maxRecDepth 100000
namespace Go.Proofs.YtddnleofflobhaaGreatDoor
open Go.RowKit

/-- A log that goes on: its records, how many turns at most, its first record's number, how many writes wait at most. -/
structure Liv (base : Nat) (w : World) (lb db sb n : Nat) (vw rv : Value) (S : List (List UInt8)) (Q : List Wr) (L : Ls) (R : List Rc) (t f q : Nat) : Prop where
  g : Lg base w lb db sb n vw rv S Q L R
  wt : L.waits = Q.length
  dn : L.down = false
  ok : L.h.Ok
  tn : L.h.tn ≤ t
  fi : L.h.fi = f
  us : L.used = gones R R.length
  su : L.ours = true → L.h.su ≤ L.used
  ql : Q.length ≤ q
  fit : L.used ≤ n - 2
  rl : ∀ r ∈ R, r.b.length ≤ 32768
def Live (base lb db sb n : Nat) (vw rv : Value) (R : List Rc) (t f q : Nat) (w : World) : Prop := ∃ S Q L, Liv base w lb db sb n vw rv S Q L R t f q

theorem gones_add (R : List Rc) (r : Rc) : gones (R ++ [r]) (R ++ [r]).length = gones R R.length + secs r.b.length := by
  unfold gones
  rw [List.take_length, List.take_length]
  simp
theorem gones_cut (R : List Rc) (m : Nat) : gones R R.length = gones R m + gones (R.drop m) (R.drop m).length := by
  unfold gones
  rw [List.take_length, List.take_length, ← List.sum_append, ← List.map_append, List.take_append_drop]
theorem gones_mono (R : List Rc) (m : Nat) : gones R m ≤ gones R R.length := by rw [gones_cut R m]; omega

section
variable {base : Nat} {w w' : World} {lb db sb n t f q : Nat} {vw rv : Value} {S : List (List UInt8)} {Q : List Wr} {L : Ls} {R : List Rc}

theorem Live.old (h : Live base lb db sb n vw rv R t f q w) (hb : Below w.heap.size w w') : Live base lb db sb n vw rv R t f q w' := by
  obtain ⟨S, Q, L, h⟩ := h
  exact ⟨S, Q, L, { h with g := h.g.old hb }⟩
theorem Live.kept {X : Nat → Prop} (h : Live base lb db sb n vw rv R t f q w) (hk : Keep X w w') (hx : ∀ k, GL db sb vw lb rv k → ¬ X k) (hb : ∀ r ∈ R, r.b ≠ [] → ∀ a, r.a = some a → ¬ X a.block) : Live base lb db sb n vw rv R t f q w' := by
  obtain ⟨S, Q, L, h⟩ := h
  exact ⟨S, Q, L, { h with g := h.g.kept hk hx hb }⟩
theorem Live.mono {t' q' : Nat} (h : Live base lb db sb n vw rv R t f q w) (ht : t ≤ t') (hq : q ≤ q') : Live base lb db sb n vw rv R t' f q' w := by
  obtain ⟨S, Q, L, h⟩ := h
  exact ⟨S, Q, L, { h with tn := Nat.le_trans h.tn ht, ql := Nat.le_trans h.ql hq }⟩

theorem nmb_lt (hn : n ≤ 65536) (h : Hd) (i : Nat) (ht : h.tn ≤ 1000000000) (hi : i ≤ 131072) : nmb n h i < 18446744073709551616 := by
  unfold nmb
  have h1 : h.tn * (n - 2) ≤ 1000000000 * 65536 := Nat.mul_le_mul ht (by omega)
  omega

theorem records_live (h : Live base lb db sb n vw rv R t f q w) (hR : R.length ≤ 1000000) : Calls Tryz.prog 50 #[.pointer (some ⟨lb, 0, none⟩)] w (RecordsA R w) := by
  obtain ⟨S, Q, L, h⟩ := h
  exact records_ok h.g hR (fun r hr => by have := h.rl r hr; omega)
theorem first_live (h : Live base lb db sb n vw rv R t f q w) : Calls Tryz.prog 49 #[.pointer (some ⟨lb, 0, none⟩)] w (fun e w' => e = .returned (.int .u64 (f : Int)) ∧ w' = w) := by
  obtain ⟨S, Q, L, h⟩ := h
  have := first_any h.g.l
  rw [h.fi] at this
  exact this
theorem next_live (h : Live base lb db sb n vw rv R t f q w) (hf : f + R.length < 18446744073709551616) : Calls Tryz.prog 98 #[.pointer (some ⟨lb, 0, none⟩)] w (Draws w (.int .u64 ((f + R.length : Nat) : Int))) := by
  obtain ⟨S, Q, L, h⟩ := h
  have := next_any h.g.l R.length (by obtain ⟨ao, c, e, -⟩ := h.g.r.form; exact ⟨ao, c, e⟩) (by rw [h.fi]; exact hf)
  rw [h.fi] at this
  exact this

end
end Go.Proofs.YtddnleofflobhaaGreatDoor

set_option linter.unusedVariables false
set_option linter.unusedSimpArgs false
set_option maxRecDepth 100000
namespace Go.Proofs.YtddnleofflobhaaGreatDoor
open Go.RowKit

def z64 : List UInt8 := List.replicate 64 0
theorem z64_head : hdOf z64 = h0 := by kernel_rfl

theorem secB_take {l : List UInt8} {m : Nat} (h : l.length ≤ 56) : (secB l m).take 56 = bodyP l := by
  unfold secB bodyP
  rw [List.take_append_of_le_length (by simp; omega), List.take_of_length_le (by simp; omega)]
theorem secB_seal {l : List UInt8} {m : Nat} (h : l.length ≤ 56) (hm : m < 18446744073709551616) : sealN (secB l m) = m := by
  unfold sealN secB
  rw [List.drop_append_of_le_length (by simp; omega), List.drop_of_length_le (by simp; omega), List.nil_append]
  exact gr_le8 hm

theorem hdOf_hSec {h : Hd} (hk : h.Ok) : hdOf (hSec h) = h := by
  have hb := hBody_len h
  have hs : sealN (hSec h) = h.tn := secB_seal (by omega) hk.tn
  have e0 : (hSec h).take 8 = le8 h.fi := by
    unfold hSec secB hBody
    rw [List.append_assoc, List.append_assoc, List.append_assoc, List.take_append_of_le_length (by rw [le8_len]; exact Nat.le_refl _), List.take_of_length_le (by rw [le8_len]; exact Nat.le_refl _)]
  have e1 : ((hSec h).drop 8).take 8 = le8 h.fr := by
    unfold hSec secB hBody
    rw [List.append_assoc, List.append_assoc, List.append_assoc, List.drop_append_of_le_length (by rw [le8_len]; exact Nat.le_refl _), List.drop_of_length_le (by rw [le8_len]; exact Nat.le_refl _), List.nil_append, List.take_append_of_le_length (by rw [le8_len]; exact Nat.le_refl _), List.take_of_length_le (by rw [le8_len]; exact Nat.le_refl _)]
  have d8 : (hSec h).drop 8 = le8 h.fr ++ (le8 h.su ++ (List.replicate (56 - (hBody h).length) 0 ++ le8 h.tn)) := by
    unfold hSec secB
    conv => lhs; rw [show hBody h = le8 h.fi ++ le8 h.fr ++ le8 h.su from rfl, List.append_assoc, List.append_assoc, List.append_assoc, List.drop_append_of_le_length (by rw [le8_len]; exact Nat.le_refl _), List.drop_of_length_le (by rw [le8_len]; exact Nat.le_refl _), List.nil_append]
    rfl
  have e2 : ((hSec h).drop 16).take 8 = le8 h.su := by
    have : (hSec h).drop 16 = ((hSec h).drop 8).drop 8 := by rw [List.drop_drop]
    rw [this, d8, List.drop_append_of_le_length (by rw [le8_len]; exact Nat.le_refl _), List.drop_of_length_le (by rw [le8_len]; exact Nat.le_refl _), List.nil_append, List.take_append_of_le_length (by rw [le8_len]; exact Nat.le_refl _), List.take_of_length_le (by rw [le8_len]; exact Nat.le_refl _)]
  have h1 := hk.fi
  have h2 := hk.fr
  have h3 := hk.su
  unfold hdOf
  rw [e0, e1, e2, hs, gr_le8 h1, gr_le8 (by omega), gr_le8 (by omega), if_neg (by omega)]

theorem newK_succ (S : List (List UInt8)) (k : Nat) : newK S h0 (k + 1) = if (hdOf (S.getD k [])).tn > (newK S h0 k).tn then hdOf (S.getD k []) else newK S h0 k := rfl
theorem newK_ge (S : List (List UInt8)) : (hdOf (S.getD 0 [])).tn ≤ (newK S h0 2).tn ∧ (hdOf (S.getD 1 [])).tn ≤ (newK S h0 2).tn := by
  have key : ∀ k, (hdOf (S.getD k [])).tn ≤ (newK S h0 (k + 1)).tn ∧ (newK S h0 k).tn ≤ (newK S h0 (k + 1)).tn := fun k => by
    rw [newK_succ]
    split
    · rename_i h
      exact ⟨Nat.le_refl _, Nat.le_of_lt h⟩
    · rename_i h
      exact ⟨by omega, Nat.le_refl _⟩
  exact ⟨Nat.le_trans (key 0).1 (key 1).2, (key 1).1⟩
theorem newK_same {S S' : List (List UInt8)} (h0' : S'.getD 0 [] = S.getD 0 []) (h1' : S'.getD 1 [] = S.getD 1 []) : newK S' h0 2 = newK S h0 2 := by
  have e1 : newK S' h0 1 = newK S h0 1 := by rw [newK_succ S' 0, newK_succ S 0, h0']; rfl
  rw [newK_succ S' 1, newK_succ S 1, e1, h1']
/-- The newer head counts. -/
theorem newK_new {S' : List (List UInt8)} {h' : Hd} (k : Nat) (hk : k < 2) (h1 : hdOf (S'.getD k []) = h') (h2 : (hdOf (S'.getD (1 - k) [])).tn < h'.tn) : newK S' h0 2 = h' := by
  have hp : 0 < h'.tn := by omega
  rcases k with _ | _ | k
  · have e1 : newK S' h0 1 = h' := by
      rw [newK_succ S' 0, h1, if_pos (by show h'.tn > h0.tn; exact hp)]
    rw [newK_succ S' 1, e1, if_neg (by simp only [Nat.sub_zero] at h2; omega)]
  · have e1 : (newK S' h0 1).tn < h'.tn := by
      rw [newK_succ S' 0]
      split
      · simpa using h2
      · exact hp
    have h1' : hdOf (S'.getD 1 []) = h' := h1
    rw [newK_succ S' 1, h1', if_pos e1]
  · omega

/-- The bodies of all records' sectors. -/
def imgR (R : List Rc) : List (List UInt8) := R.flatMap fun r => (List.range (secs r.b.length)).map fun j => bodyP (pc (recB r.b) j)
theorem imgR_len (R : List Rc) : (imgR R).length = gones R R.length := by
  unfold imgR gones
  rw [List.length_flatMap, List.take_length]
  simp
theorem imgR_app (A B : List Rc) : imgR (A ++ B) = imgR A ++ imgR B := by unfold imgR; simp
theorem imgR_take (R : List Rc) (m : Nat) : (imgR (R.take m)).length = gones R m := by
  rw [imgR_len]
  unfold gones
  rw [List.take_length]

/-- What lies on the disk. -/
structure Dsk (n : Nat) (S : List (List UInt8)) (h : Hd) (R : List Rc) : Prop where
  nk : newK S h0 2 = h
  tn : 0 < h.tn
  bd : ∀ i x, (imgR R)[i]? = some x → (S.getD (2 + (h.fr + i)) []).take 56 = x ∧ (h.su ≤ i → sealN (S.getD (2 + (h.fr + i)) []) = nmb n h i)
  zr : ∀ p, h.fr + (imgR R).length ≤ p → p < n - 2 → S.getD (2 + p) [] = z64
  nw : h.fr + (imgR R).length < n - 2
  su : h.su ≤ (imgR R).length
  sl : n ≤ S.length
def DskL (n : Nat) (S : List (List UInt8)) (L : Ls) (R : List Rc) : Prop := (L.h = h0 ∧ S = List.replicate n z64 ∧ R = [] ∧ L.ours = false) ∨ Dsk n S L.h R

theorem getD_set_other {S : List (List UInt8)} {k p : Nat} {x : List UInt8} (h : p ≠ k) : (S.set k x).getD p [] = S.getD p [] := by
  rw [List.getD_eq_getElem?_getD, List.getD_eq_getElem?_getD, List.getElem?_set_ne (by omega)]
theorem getD_set_self {S : List (List UInt8)} {k : Nat} {x : List UInt8} (h : k < S.length) : (S.set k x).getD k [] = x := by
  rw [List.getD_eq_getElem?_getD, List.getElem?_set_self h]
  rfl

/-- Behind the head's being laid. -/
theorem Dsk.lay {n : Nat} {S : List (List UInt8)} {L : Ls} {R : List Rc} (h : DskL n S L R) (hn : 3 ≤ n) (hu : L.used = gones R R.length) (m : Nat) (hm : m ≤ R.length) (hk : (nextH n L R m).Ok) : Dsk n (S.set ((L.h.tn + 1) % 2) (hSec (nextH n L R m))) (nextH n L R m) (R.drop m) := by
  have hmod : (L.h.tn + 1) % 2 < 2 := Nat.mod_lt _ (by omega)
  have hge : (hdOf (S.getD 0 [])).tn ≤ L.h.tn ∧ (hdOf (S.getD 1 [])).tn ≤ L.h.tn := by
    rcases h with ⟨e1, e2, -, -⟩ | h
    · have hz : ∀ k, k < 2 → (hdOf (S.getD k [])).tn ≤ L.h.tn := fun k hk9 => by
        rw [e2, List.getD_eq_getElem?_getD, List.getElem?_replicate, if_pos (by omega)]
        show (hdOf z64).tn ≤ _
        rw [z64_head]
        exact Nat.zero_le _
      exact ⟨hz 0 (by omega), hz 1 (by omega)⟩
    · have := newK_ge S
      rw [h.nk] at this
      exact this
  have hsl : n ≤ S.length := by
    rcases h with ⟨-, e2, -, -⟩ | h
    · rw [e2]; simp
    · exact h.sl
  have hnew : newK (S.set ((L.h.tn + 1) % 2) (hSec (nextH n L R m))) h0 2 = nextH n L R m := by
    refine newK_new _ hmod (by rw [getD_set_self (by omega)]; exact hdOf_hSec hk) ?_
    rw [getD_set_other (by omega)]
    show _ < L.h.tn + 1
    rcases (show (L.h.tn + 1) % 2 = 0 ∨ (L.h.tn + 1) % 2 = 1 by omega) with e | e
    · rw [e]; have := hge.2; simp only [Nat.sub_zero]; omega
    · rw [e]; have := hge.1; simp only [Nat.sub_self]; omega
  have himg : imgR R = imgR (R.take m) ++ imgR (R.drop m) := by rw [← imgR_app, List.take_append_drop]
  have hlen := imgR_take R m
  have hlr := imgR_len R
  have hsum : (imgR R).length = gones R m + (imgR (R.drop m)).length := by rw [himg, List.length_append, hlen]
  -- where the head stood
  have hbase : L.h.fr + (imgR R).length < n - 2 ∧ (∀ i x, (imgR R)[i]? = some x → (S.getD (2 + (L.h.fr + i)) []).take 56 = x) ∧ ∀ p, L.h.fr + (imgR R).length ≤ p → p < n - 2 → S.getD (2 + p) [] = z64 := by
    rcases h with ⟨e1, e2, e3, -⟩ | h
    · subst e3
      refine ⟨by rw [e1]; show 0 + 0 < _; omega, (fun i x hx => by cases hx), fun p _ hp => ?_⟩
      rw [e2, List.getD_eq_getElem?_getD, List.getElem?_replicate, if_pos (by omega)]
      rfl
    · exact ⟨h.nw, fun i x hx => (h.bd i x hx).1, h.zr⟩
  obtain ⟨hnw, hbd, hzr⟩ := hbase
  have hfr : (nextH n L R m).fr = L.h.fr + gones R m := by
    show (L.h.fr + gones R m) % (n - 2) = _
    exact Nat.mod_eq_of_lt (by omega)
  have hsu : (nextH n L R m).su = (imgR (R.drop m)).length := by
    show L.used - gones R m = _
    omega
  refine ⟨hnew, Nat.succ_pos _, fun i x hx => ?_, fun p hp hp2 => ?_, by rw [hfr]; omega, Nat.le_of_eq hsu, by rw [List.length_set]; exact hsl⟩
  · have hi : i < (imgR (R.drop m)).length := (List.getElem?_eq_some_iff.1 hx).1
    refine ⟨?_, fun h9 => by omega⟩
    rw [getD_set_other (by omega), hfr, show L.h.fr + gones R m + i = L.h.fr + (gones R m + i) from by omega]
    refine hbd _ x ?_
    rw [himg, List.getElem?_append_right (by omega), hlen, show gones R m + i - gones R m = i from by omega]
    exact hx
  · rw [getD_set_other (by omega)]
    exact hzr p (by rw [hfr] at hp; omega) hp2

theorem addS_get {n : Nat} {h : Hd} {u : Nat} {B : List UInt8} {S : List (List UInt8)} (hsl : n ≤ S.length) : ∀ k, h.fr + (u + k) < n - 2 → (∀ q, q < 2 → (addS n h u B S k).getD q [] = S.getD q []) ∧ ∀ p, p < n - 2 → (addS n h u B S k).getD (2 + p) [] = if h.fr + u ≤ p ∧ p < h.fr + u + k then secB (pc B (p - (h.fr + u))) (nmb n h (p - h.fr)) else S.getD (2 + p) []
  | 0, _ => ⟨fun _ _ => rfl, fun p _ => by rw [if_neg (by omega)]; rfl⟩
  | k + 1, hk => by
    obtain ⟨i1, i2⟩ := addS_get (h := h) (u := u) (S := S) (B := B) hsl k (by omega)
    have hp : plc n h (u + k) = 2 + (h.fr + (u + k)) := by
      unfold plc
      rw [Nat.mod_eq_of_lt (by omega)]
    have hlen := addS_len n h u B S k
    refine ⟨fun q hq => ?_, fun p hp2 => ?_⟩
    · rw [addS, hp, getD_set_other (k := 2 + (h.fr + (u + k))) (p := q) (by omega)]
      exact i1 q hq
    · rw [addS, hp]
      by_cases e : p = h.fr + (u + k)
      · subst e
        rw [getD_set_self (k := 2 + (h.fr + (u + k))) (by rw [hlen]; omega), if_pos (by omega), show h.fr + (u + k) - (h.fr + u) = k from by omega, show h.fr + (u + k) - h.fr = u + k from by omega]
      · rw [getD_set_other (k := 2 + (h.fr + (u + k))) (p := 2 + p) (by omega), i2 p hp2]
        by_cases e2 : h.fr + u ≤ p ∧ p < h.fr + u + k
        · rw [if_pos e2, if_pos (by omega)]
        · rw [if_neg e2, if_neg (by omega)]

/-- Behind one record more. -/
theorem Dsk.add {n : Nat} {S : List (List UInt8)} {H : Hd} {R : List Rc} {u : Nat} (h : Dsk n S H R) (hu : u = gones R R.length) (r : Rc) (hnw : H.fr + u + secs r.b.length < n - 2) (hnm : ∀ i, i ≤ 131072 → nmb n H i < 18446744073709551616) (hn2 : n ≤ 65536) : Dsk n (addS n H u (recB r.b) S (secs r.b.length)) H (R ++ [r]) := by
  have hlr := imgR_len R
  obtain ⟨g1, g2⟩ := addS_get (n := n) (h := H) (u := u) (B := recB r.b) h.sl (secs r.b.length) (by omega)
  have himg : imgR (R ++ [r]) = imgR R ++ (List.range (secs r.b.length)).map fun j => bodyP (pc (recB r.b) j) := by rw [imgR_app]; unfold imgR; simp
  have hlen : (imgR (R ++ [r])).length = u + secs r.b.length := by rw [himg]; simp; omega
  have hpl : ∀ j, (pc (recB r.b) j).length ≤ 56 := fun j => by rw [pc_len]; omega
  refine ⟨by rw [newK_same (g1 0 (by omega)) (g1 1 (by omega))]; exact h.nk, h.tn, fun i x hx => ?_, fun p hp hp2 => ?_, by rw [hlen]; omega, by have := h.su; omega, by rw [addS_len]; exact h.sl⟩
  · have hi : i < (imgR (R ++ [r])).length := (List.getElem?_eq_some_iff.1 hx).1
    rw [g2 (H.fr + i) (by omega)]
    by_cases hiu : i < u
    · rw [if_neg (by omega)]
      rw [himg, List.getElem?_append_left (by omega)] at hx
      exact h.bd i x hx
    · rw [if_pos (by omega)]
      rw [himg, List.getElem?_append_right (by omega), List.getElem?_map, List.getElem?_range (by omega)] at hx
      simp only [Option.map_some, Option.some.injEq] at hx
      have e1 : H.fr + i - (H.fr + u) = i - (imgR R).length := by omega
      have e2 : H.fr + i - H.fr = i := by omega
      rw [e1, e2]
      refine ⟨by rw [secB_take (hpl _)]; exact hx, fun _ => secB_seal (hpl _) (hnm i (by omega))⟩
  · rw [g2 p hp2, if_neg (by omega)]
    exact h.zr p (by omega) hp2

end Go.Proofs.YtddnleofflobhaaGreatDoor

set_option linter.unusedVariables false
set_option linter.unusedSimpArgs false
set_option maxRecDepth 100000
namespace Go.Proofs.YtddnleofflobhaaGreatDoor
open Go.RowKit

/-- A log that goes on; no further than T on its ring. -/
def LiveD (base lb db sb n : Nat) (vw rv : Value) (R : List Rc) (t f q T : Nat) (w : World) : Prop := ∃ S Q L, Liv base w lb db sb n vw rv S Q L R t f q ∧ DskL n S L R ∧ L.h.fr + L.used ≤ T

section
variable {base : Nat} {w w' : World} {lb db sb n t f q T : Nat} {vw rv : Value} {S : List (List UInt8)} {Q : List Wr} {L : Ls} {R : List Rc}

theorem LiveD.live (h : LiveD base lb db sb n vw rv R t f q T w) : Live base lb db sb n vw rv R t f q w := by
  obtain ⟨S, Q, L, h, -⟩ := h
  exact ⟨S, Q, L, h⟩
theorem LiveD.old (h : LiveD base lb db sb n vw rv R t f q T w) (hb : Below w.heap.size w w') : LiveD base lb db sb n vw rv R t f q T w' := by
  obtain ⟨S, Q, L, h, h2⟩ := h
  exact ⟨S, Q, L, { h with g := h.g.old hb }, h2⟩
theorem LiveD.mono {t' q' T' : Nat} (h : LiveD base lb db sb n vw rv R t f q T w) (ht : t ≤ t') (hq : q ≤ q') (hT : T ≤ T') : LiveD base lb db sb n vw rv R t' f q' T' w := by
  obtain ⟨S, Q, L, h, h2, h3⟩ := h
  exact ⟨S, Q, L, { h with tn := Nat.le_trans h.tn ht, ql := Nat.le_trans h.ql hq }, h2, Nat.le_trans h3 hT⟩

/-- The disk behind Append. -/
theorem dsk_append (h : Lg base w lb db sb n vw rv S Q L R) (hd : DskL n S L R) (hT : L.h.fr + L.used ≤ T) (hu : L.used = gones R R.length) (hn : 3 ≤ n) (hk : L.h.Ok) (ht : L.h.tn < 1000000000) (r : Rc) (hnw : T + secs r.b.length < n - 2) :
    Dsk n (addS n (hdA n L R) L.used (recB r.b) (sA n L R S) (secs r.b.length)) (hdA n L R) (R ++ [r]) ∧ (hdA n L R).fr + (L.used + secs r.b.length) ≤ T + secs r.b.length := by
  have hn2 := h.d.few.2.1
  cases ho : L.ours with
  | true =>
    have e1 : sA n L R S = S := by simp [sA, ho]
    have e2 : hdA n L R = L.h := by simp [hdA, ho]
    rw [e1, e2]
    rcases hd with ⟨-, -, -, h4⟩ | hd
    · rw [ho] at h4; cases h4
    · exact ⟨hd.add hu r (by omega) (fun i hi => nmb_lt hn2 _ i (by omega) hi) hn2, by omega⟩
  | false =>
    have e1 : sA n L R S = S.set ((L.h.tn + 1) % 2) (hSec (nextH n L R 0)) := by simp [sA, ho]
    have e2 : hdA n L R = nextH n L R 0 := by simp [hdA, ho]
    have hok := nextH_ok h hn hk (by omega) (by omega)
    have e3 : gones R 0 = 0 := by unfold gones; simp
    have hfr : (nextH n L R 0).fr = L.h.fr := by
      show (L.h.fr + gones R 0) % (n - 2) = _
      rw [e3, Nat.add_zero]
      exact Nat.mod_eq_of_lt (by omega)
    have hl := Dsk.lay hd hn hu 0 (Nat.zero_le _) hok.1
    rw [List.drop_zero] at hl
    rw [e1, e2]
    exact ⟨hl.add hu r (by rw [hfr]; omega) (fun i hi => nmb_lt hn2 _ i (by show L.h.tn + 1 ≤ _; omega) hi) hn2, by rw [hfr]; omega⟩

theorem newK_zero (hn : 2 ≤ n) : newK (List.replicate n z64) h0 2 = h0 := by
  have h1 : ∀ k, k < n → (List.replicate n z64).getD k [] = z64 := fun k hk => by
    rw [List.getD_eq_getElem?_getD, List.getElem?_replicate_of_lt hk]; rfl
  have st : ∀ k, k < n → newK (List.replicate n z64) h0 k = h0 → newK (List.replicate n z64) h0 (k + 1) = h0 := fun k hk e => by
    rw [newK_succ]
    split
    · rw [h1 k hk]; exact z64_head
    · exact e
  exact st 1 (by omega) (st 0 (by omega) rfl)

theorem open_newD (hD : Dk base w db sb n vw (List.replicate n (List.replicate 64 0)) [] false 0) (hn : 3 ≤ n) : Calls Tryz.prog 32 #[.pointer (some ⟨db, 0, none⟩)] w (fun e w' => ∃ lb, e = .returned (.tuple #[.pointer (some ⟨lb, 0, none⟩), .int .i64 0]) ∧ LiveD base lb db sb n vw (.slice none 0 0) [] 0 0 0 0 w' ∧ w.heap.size ≤ lb ∧ Below w.heap.size w w') := by
  have hk : newK (List.replicate n (List.replicate 64 0)) h0 2 = h0 := newK_zero (n := n) (by omega)
  have hn2 := hD.few.2.1
  refine (open_none hD hn (fun j hj => nmb_lt hn2 _ j (by rw [hk]; exact Nat.zero_le _) hj) (by rw [hk]; unfold pieceM; rw [if_pos (.inr rfl)])).mono ?_
  rintro e w' ⟨lb, rfl, h1, h2, h3⟩
  rw [hk] at h2
  have hlt := fun k hk => (hD.lt k hk).2
  have hbs := hD.base_le
  have hnb : ∀ k, blk (.slice none 0 0) = some k → False := fun k hk => by cases hk
  have hG : Lg base w' lb db sb n vw (.slice none 0 0) (List.replicate n (List.replicate 64 0)) [] ⟨h0, 0, false, 0, false⟩ [] :=
    ⟨hD.old h3, h2, fun e => (by have := hlt _ e; omega), ⟨.inl ⟨rfl, rfl⟩, by simp⟩, fun k hk => (hnb k hk).elim, by simp, ⟨by omega, fun k hk => (hnb k hk).elim⟩⟩
  exact ⟨lb, rfl, ⟨_, [], _, ⟨hG, rfl, rfl, h0_ok, Nat.le_refl _, rfl, rfl, (fun h => by cases h), by simp, Nat.zero_le _, by simp⟩, .inl ⟨rfl, rfl, rfl, rfl⟩, Nat.le_refl _⟩, h1, h3⟩
end
end Go.Proofs.YtddnleofflobhaaGreatDoor

set_option linter.unusedVariables false
set_option linter.unusedSimpArgs false
set_option maxRecDepth 100000
namespace Go.Proofs.YtddnleofflobhaaGreatDoor
open Go.RowKit

/-- What waits: the sectors from the a-th on. -/
structure Wts (S : List (List UInt8)) (Q : List Wr) (h : Hd) (u a : Nat) : Prop where
  su : h.su ≤ a
  len : a + Q.length = u
  each : ∀ i x, Q[i]? = some x → x.at' = 2 + (h.fr + (a + i)) ∧ x.was = z64 ∧ x.now = S.getD (2 + (h.fr + (a + i))) []

theorem Wts.at {S : List (List UInt8)} {Q : List Wr} {h : Hd} {u a : Nat} (hw : Wts S Q h u a) : (∀ x ∈ Q, x.was = z64) ∧ (∀ p, (∃ x ∈ Q, x.at' = p) ↔ 2 + (h.fr + a) ≤ p ∧ p < 2 + (h.fr + u)) ∧ Q.Pairwise (fun x y => x.at' ≠ y.at') := by
  have hlen := hw.len
  refine ⟨fun x hx => ?_, fun p => ⟨fun ⟨x, hx, hp⟩ => ?_, fun ⟨h1, h2⟩ => ?_⟩, ?_⟩
  · obtain ⟨i, hi⟩ := List.mem_iff_getElem?.1 hx
    exact (hw.each i x hi).2.1
  · obtain ⟨i, hi⟩ := List.mem_iff_getElem?.1 hx
    have h9 := (hw.each i x hi).1
    have := (List.getElem?_eq_some_iff.1 hi).1
    omega
  · have hv := List.getElem?_eq_getElem (l := Q) (i := p - (2 + (h.fr + a))) (by omega)
    exact ⟨_, List.mem_of_getElem? hv, by rw [(hw.each _ _ hv).1]; omega⟩
  · rw [List.pairwise_iff_getElem]
    intro i j hi hj hij
    rw [(hw.each i _ (List.getElem?_eq_getElem hi)).1, (hw.each j _ (List.getElem?_eq_getElem hj)).1]
    omega

end Go.Proofs.YtddnleofflobhaaGreatDoor

set_option linter.unusedVariables false
set_option linter.unusedSimpArgs false
set_option maxRecDepth 100000
namespace Go.Proofs.YtddnleofflobhaaGreatDoor
open Go.RowKit

theorem addQ_get (n : Nat) (h : Hd) (u : Nat) (B : List UInt8) (S : List (List UInt8)) : ∀ s j x, (addQ n h u B S s)[j]? = some x → j < s ∧ x = ⟨plc n h (u + j), (addS n h u B S j).getD (plc n h (u + j)) [], secB (pc B j) (nmb n h (u + j))⟩
  | 0, j, x, hx => by cases hx
  | s + 1, j, x, hx => by
    have hl := addQ_len n h u B S s
    rw [addQ] at hx
    rcases Nat.lt_or_ge j s with e | e
    · rw [List.getElem?_append_left (by omega)] at hx
      have := addQ_get n h u B S s j x hx
      exact ⟨by omega, this.2⟩
    · have hj := (List.getElem?_eq_some_iff.1 hx).1
      rw [List.length_append, hl, List.length_singleton] at hj
      obtain rfl : j = s := by omega
      rw [List.getElem?_append_right (by omega), hl, Nat.sub_self] at hx
      simp only [List.getElem?_cons_zero, Option.some.injEq] at hx
      exact ⟨by omega, hx.symm⟩

theorem Wts.add {n : Nat} {S : List (List UInt8)} {Q : List Wr} {H : Hd} {R : List Rc} {u a s : Nat} {B : List UInt8} (hw : Wts S Q H u a) (h : Dsk n S H R) (hu : u = gones R R.length) (hf : H.fr + u + s < n - 2) : Wts (addS n H u B S s) (Q ++ addQ n H u B S s) H (u + s) a := by
  have hlr := imgR_len R
  have hql := addQ_len n H u B S s
  have hlen := hw.len
  have hs := addS_get (n := n) (h := H) (u := u) (B := B) h.sl s (by omega)
  refine ⟨hw.su, by rw [List.length_append, hql]; omega, fun i x hx => ?_⟩
  have hi := (List.getElem?_eq_some_iff.1 hx).1
  rw [List.length_append, hql] at hi
  rcases Nat.lt_or_ge i Q.length with e | e
  · rw [List.getElem?_append_left e] at hx
    obtain ⟨e1, e2, e3⟩ := hw.each i x hx
    refine ⟨e1, e2, ?_⟩
    rw [hs.2 (H.fr + (a + i)) (by omega), if_neg (by omega)]
    exact e3
  · rw [List.getElem?_append_right e] at hx
    obtain ⟨hj, rfl⟩ := addQ_get n H u B S s _ x hx
    have hij : u + (i - Q.length) = a + i := by omega
    rw [hij]
    have hp : plc n H (a + i) = 2 + (H.fr + (a + i)) := by
      unfold plc
      rw [Nat.mod_eq_of_lt (by omega)]
    have hs2 := addS_get (n := n) (h := H) (u := u) (B := B) h.sl (i - Q.length) (by omega)
    refine ⟨hp, ?_, ?_⟩
    · show (addS n H u B S (i - Q.length)).getD _ [] = _
      rw [hp, hs2.2 _ (by omega), if_neg (by omega)]
      exact h.zr _ (by omega) (by omega)
    · show secB _ _ = _
      rw [hs.2 _ (by omega), if_pos (by omega), show H.fr + (a + i) - (H.fr + u) = i - Q.length from by omega, show H.fr + (a + i) - H.fr = a + i from by omega]

/-- A log that goes on; of its records m at least are safe. -/
def LiveC (base lb db sb n : Nat) (vw rv : Value) (R : List Rc) (t f q T m : Nat) (w : World) : Prop := ∃ S Q L m', Liv base w lb db sb n vw rv S Q L R t f q ∧ DskL n S L R ∧ L.h.fr + L.used ≤ T ∧ m ≤ m' ∧ m' ≤ R.length ∧ Wts S Q L.h L.used (gones R m')

theorem gones_left (R : List Rc) (r : Rc) {m : Nat} (hm : m ≤ R.length) : gones (R ++ [r]) m = gones R m := by
  unfold gones
  rw [List.take_append_of_le_length hm]

section
variable {base : Nat} {w w' : World} {lb db sb n t f q T m : Nat} {vw rv : Value} {S : List (List UInt8)} {Q : List Wr} {L : Ls} {R : List Rc}

theorem LiveC.live (h : LiveC base lb db sb n vw rv R t f q T m w) : Live base lb db sb n vw rv R t f q w := by
  obtain ⟨S, Q, L, m', h, -⟩ := h
  exact ⟨S, Q, L, h⟩
theorem LiveC.old (h : LiveC base lb db sb n vw rv R t f q T m w) (hb : Below w.heap.size w w') : LiveC base lb db sb n vw rv R t f q T m w' := by
  obtain ⟨S, Q, L, m', h, h2⟩ := h
  exact ⟨S, Q, L, m', { h with g := h.g.old hb }, h2⟩
theorem LiveC.mono {t' q' T' : Nat} (h : LiveC base lb db sb n vw rv R t f q T m w) (ht : t ≤ t') (hq : q ≤ q') (hT : T ≤ T') : LiveC base lb db sb n vw rv R t' f q' T' m w := by
  obtain ⟨S, Q, L, m', h, h2, h3, h4⟩ := h
  exact ⟨S, Q, L, m', { h with tn := Nat.le_trans h.tn ht, ql := Nat.le_trans h.ql hq }, h2, Nat.le_trans h3 hT, h4⟩
theorem LiveC.kept {X : Nat → Prop} (h : LiveC base lb db sb n vw rv R t f q T m w) (hk : Keep X w w') (hx : ∀ k, GL db sb vw lb rv k → ¬ X k) (hb : ∀ r ∈ R, r.b ≠ [] → ∀ a, r.a = some a → ¬ X a.block) : LiveC base lb db sb n vw rv R t f q T m w' := by
  obtain ⟨S, Q, L, m', h, h2⟩ := h
  exact ⟨S, Q, L, m', { h with g := h.g.kept hk hx hb }, h2⟩

theorem wts_append (h : Lg base w lb db sb n vw rv S Q L R) (hd : DskL n S L R) (hT : L.h.fr + L.used ≤ T) (hu : L.used = gones R R.length) (hn : 3 ≤ n) (hk : L.h.Ok) (ht : L.h.tn < 1000000000) (r : Rc) (hnw : T + secs r.b.length < n - 2) {m' : Nat} (hm : m' ≤ R.length) (hw : Wts S Q L.h L.used (gones R m')) :
    ∃ m2, m' ≤ m2 ∧ m2 ≤ (R ++ [r]).length ∧ Wts (addS n (hdA n L R) L.used (recB r.b) (sA n L R S) (secs r.b.length)) (qB L Q ++ addQ n (hdA n L R) L.used (recB r.b) (sA n L R S) (secs r.b.length)) (hdA n L R) (L.used + secs r.b.length) (gones (R ++ [r]) m2) := by
  have hn2 := h.d.few.2.1
  cases ho : L.ours with
  | true =>
    have e1 : sA n L R S = S := by simp [sA, ho]
    have e2 : hdA n L R = L.h := by simp [hdA, ho]
    have e3 : qB L Q = Q := by simp [qB, ho]
    rw [e1, e2, e3]
    rcases hd with ⟨-, -, -, h4⟩ | hd
    · rw [ho] at h4; cases h4
    · refine ⟨m', Nat.le_refl _, by rw [List.length_append]; omega, ?_⟩
      rw [gones_left R r hm]
      exact hw.add hd hu (by omega)
  | false =>
    have e1 : sA n L R S = S.set ((L.h.tn + 1) % 2) (hSec (nextH n L R 0)) := by simp [sA, ho]
    have e2 : hdA n L R = nextH n L R 0 := by simp [hdA, ho]
    have e9 : qB L Q = [] := by simp [qB, ho]
    have hok := nextH_ok h hn hk (by omega) (by omega)
    have e3 : gones R 0 = 0 := by unfold gones; simp
    have hfr : (nextH n L R 0).fr = L.h.fr := by
      show (L.h.fr + gones R 0) % (n - 2) = _
      rw [e3, Nat.add_zero]
      exact Nat.mod_eq_of_lt (by omega)
    have hl := Dsk.lay hd hn hu 0 (Nat.zero_le _) hok.1
    rw [List.drop_zero] at hl
    rw [e1, e2, e9]
    refine ⟨R.length, hm, by rw [List.length_append]; omega, ?_⟩
    rw [gones_left R r (Nat.le_refl _)]
    refine Wts.add (Q := []) ⟨?_, ?_, fun i x hx => by cases hx⟩ hl hu (by rw [hfr]; omega)
    · rw [hok.2]; omega
    · simp; omega

/-- What Append comes to. -/
def AppC (base lb db sb n : Nat) (vw rv : Value) (R : List Rc) (t f q T m : Nat) (l : List UInt8) (w w' : World) : Prop :=
  ∃ vw' rv' r, r.b = l ∧ (∀ a, r.a = some a → w.heap.size ≤ a.block) ∧ LiveC base lb db sb n vw' rv' (R ++ [r]) (t + 1) f (q + secs l.length) (T + secs l.length) m w' ∧ Gfr db sb lb vw vw' rv rv' w w'

theorem append_C (h : LiveC base lb db sb n vw rv R t f q T m w) {ao : Option Addr} {c : Nat} {l : List UInt8} (hx : Rd w (.slice ao l.length c) l) (hl : l.length ≤ 32768) (hn : 3 ≤ n) (ht : t < 1000000000) (hq : q ≤ 90000) (hT : T + secs l.length < n - 2) (hR : R.length + 1 ≤ 1000000) (hxo : l ≠ [] → ∀ k, blk (.slice ao l.length c) = some k → ¬ GL db sb vw lb rv k) :
    Calls Tryz.prog 101 #[.pointer (some ⟨lb, 0, none⟩), .slice ao l.length c] w (fun e w' => e = .returned (.int .i64 0) ∧ AppC base lb db sb n vw rv R t f q T m l w w') := by
  obtain ⟨S, Q, L, m', h, hd, hp, hm1, hm2, hW⟩ := h
  have hn2 := h.g.d.few.2.1
  have hfit' : L.used + secs l.length ≤ n - 2 := by omega
  have hok : (hdA n L R).Ok ∧ (hdA n L R).tn ≤ t + 1 ∧ (hdA n L R).fi = f ∧ (hdA n L R).su ≤ L.used := by
    unfold hdA
    split
    · rename_i ho
      exact ⟨h.ok, Nat.le_succ_of_le h.tn, h.fi, h.su ho⟩
    · rename_i ho
      have := nextH_ok h.g hn h.ok (by have := h.tn; omega) h.fit
      refine ⟨this.1, ?_, ?_, Nat.le_of_eq this.2⟩
      · show L.h.tn + 1 ≤ t + 1
        have := h.tn; omega
      · show L.h.fi + 0 = f
        exact h.fi
  refine append_of_add h.g h.wt h.dn hl (by have := h.fit; omega) hfit' _ (fun W hb => ?_)
  refine add_any (h.g.old hb) ⟨h.wt, hl, hn, h.ok, fun _ => by have := h.tn; omega, hfit', by have := h.ql; omega, h.su, fun i hi => nmb_lt hn2 _ i (by have := hok.2.1; omega) hi, hxo, hR, h.rl⟩ (hx.old hb) _ ?_
  rintro w' ⟨vw', rv', Q', r, hr, hr0, hL, hQ, hG⟩
  have hds := dsk_append h.g hd hp h.us hn h.ok (by have := h.tn; omega) r (by rw [hr]; exact hT)
  obtain ⟨m2, hm3, hm4, hW2⟩ := wts_append h.g hd hp h.us hn h.ok (by have := h.tn; omega) r (by rw [hr]; exact hT) hm2 hW
  rw [hr] at hds hW2
  rw [← hQ] at hW2
  refine ⟨vw', rv', r, hr, fun a ha => Nat.le_trans hb.size (hr0 a ha), ⟨_, _, _, m2, ⟨hL, rfl, h.dn, hok.1, hok.2.1, hok.2.2.1, ?_, fun _ => ?_, ?_, hfit', fun q hq9 => ?_⟩, .inr hds.1, hds.2, by omega, hm4, hW2⟩, (Gfr.of_below hb).trans hG⟩
  · show L.used + secs l.length = _
    rw [gones_add, hr, h.us]
  · show (hdA n L R).su ≤ L.used + secs l.length
    have := hok.2.2.2; omega
  · rw [hQ, List.length_append, qB_len, addQ_len]
    have : qA L Q ≤ q := by
      unfold qA
      split
      · exact h.ql
      · omega
    omega
  · rcases List.mem_append.1 hq9 with e | e
    · exact h.rl q e
    · obtain rfl := List.mem_singleton.1 e
      rw [hr]; exact hl

def SynC (base lb db sb n : Nat) (vw rv : Value) (R : List Rc) (t f T : Nat) (w w' : World) : Prop :=
  ∃ vw', LiveC base lb db sb n vw' rv R t f 0 T R.length w' ∧ Gfr db sb lb vw vw' rv rv w w'
theorem sync_C (h : LiveC base lb db sb n vw rv R t f q T m w) : Calls Tryz.prog 104 #[.pointer (some ⟨lb, 0, none⟩)] w (fun e w' => e = .returned (.int .i64 0) ∧ SynC base lb db sb n vw rv R t f T w w') := by
  obtain ⟨S, Q, L, m', h, hd, hp, hm1, hm2, hW⟩ := h
  refine (sync_ok h.g h.wt h.dn).mono ?_
  rintro e w' ⟨rfl, vw', hL, hG⟩
  refine ⟨rfl, vw', ⟨S, [], _, R.length, ⟨hL, rfl, h.dn, h.ok, h.tn, h.fi, h.us, h.su, by simp, h.fit, h.rl⟩, hd, hp, Nat.le_refl _, Nat.le_refl _, ⟨?_, ?_, fun i x hx => by cases hx⟩⟩, hG⟩
  · have := hW.su
    have := gones_mono R m'
    show L.h.su ≤ _
    omega
  · show gones R R.length + 0 = L.used
    rw [h.us]; rfl

end
end Go.Proofs.YtddnleofflobhaaGreatDoor

set_option linter.unusedVariables false
set_option linter.unusedSimpArgs false
set_option maxRecDepth 100000
namespace Go.Proofs.YtddnleofflobhaaGreatDoor
open Go.RowKit

section
variable {base : Nat} {w w' : World} {lb db sb n t f q T m : Nat} {vw rv : Value} {S : List (List UInt8)} {Q : List Wr} {L : Ls} {R : List Rc}

/-- 'Cut' of nothing: it syncs. -/
theorem cut_sameC (h : LiveC base lb db sb n vw rv R t f q T m w) (hf : f + R.length < 18446744073709551616) : Calls Tryz.prog 90 #[.pointer (some ⟨lb, 0, none⟩), .int .u64 (f : Int)] w (fun e w' => e = .returned (.int .i64 0) ∧ SynC base lb db sb n vw rv R t f T w w') := by
  have hw := h.live
  obtain ⟨S, Q, L, hL⟩ := h.live
  have CN := hid (none_any hL.g.l)
  have H := hid h
  have CF : Hid (∀ W, Below w.heap.size w W → Calls Tryz.prog 49 #[.pointer (some ⟨lb, 0, none⟩)] W (fun e w' => e = .returned (.int .u64 (f : Int)) ∧ w' = W)) := hid fun W hW => first_live (hw.old hW)
  have CX : Hid (∀ W, Below w.heap.size w W → Calls Tryz.prog 98 #[.pointer (some ⟨lb, 0, none⟩)] W (Draws W (.int .u64 ((f + R.length : Nat) : Int)))) := hid fun W hW => next_live (hw.old hW) hf
  have CS : Hid (∀ W, Below w.heap.size w W → Calls Tryz.prog 104 #[.pointer (some ⟨lb, 0, none⟩)] W (fun e w' => e = .returned (.int .i64 0) ∧ SynC base lb db sb n vw rv R t f T w w')) := hid fun W hW => (sync_C (H.out.old hW)).mono fun e w' ⟨he, vw', q1, q2⟩ => ⟨he, vw', q1, (Gfr.of_below hW).trans q2⟩
  obtain ⟨c, hc⟩ : ∃ c, c = f + R.length := ⟨_, rfl⟩
  rw [← hc] at CX
  have h2 : ¬ ((c : Int) < (f : Int)) := by omega
  clear h hw hL hc hf
  go_enter Tryz.func90, Tryz.ntmps90
  go_wp2_with (first
    | (go_at_call 113; refine CN.out.mono ?_; rintro e w2 ⟨rfl, rfl⟩)
    | (go_at_call 49; refine (CF.out _ (Below.refl _ _)).mono ?_; rintro e w3 ⟨rfl, rfl⟩)
    | (go_at_call 98; refine (CX.out _ (Below.refl _ _)).mono ?_; rintro e w3 ⟨rfl, k9, rfl⟩))
  go_wp2_with (first
    | (go_at_call 49; refine (CF.out _ (Below.drewN9 _ k9)).mono ?_; rintro e w4 ⟨rfl, rfl⟩)
    | (go_at_call 104; refine (CS.out _ (Below.drewN9 _ k9)).mono ?_; rintro e w5 ⟨rfl, hp⟩))
  go_ret
  exact ⟨rfl, hp⟩

end
end Go.Proofs.YtddnleofflobhaaGreatDoor

