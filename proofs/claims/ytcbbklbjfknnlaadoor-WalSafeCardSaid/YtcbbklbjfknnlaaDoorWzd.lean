/-
  WAL: what lies on the disk, as long as the ring has not gone round.
-/
import Derived.Test.YtcbbklbjfknnlaaDoorWzc
set_option linter.unusedVariables false
set_option linter.unusedSimpArgs false
set_option maxRecDepth 100000
namespace Go.Proofs.YtcbbklbjfknnlaaDoor
open Go.RowKit

def z64 : List UInt8 := List.replicate 64 0
theorem z64_seal : sealN z64 = 0 := by kernel_rfl
theorem z64_head : hdOf z64 = h0 := by kernel_rfl

theorem secB_take {l : List UInt8} {m : Nat} (h : l.length ≤ 56) : (secB l m).take 56 = bodyP l := by
  unfold secB bodyP
  rw [List.take_append_of_le_length (by simp; omega), List.take_of_length_le (by simp; omega)]
theorem secB_seal {l : List UInt8} {m : Nat} (h : l.length ≤ 56) (hm : m < 18446744073709551616) : sealN (secB l m) = m := by
  unfold sealN secB
  rw [List.drop_append_of_le_length (by simp; omega), List.drop_of_length_le (by simp; omega), List.nil_append]
  exact gr_le8 hm

theorem hdOf_hSec {h : Hd} (hk : h.Ok) : hdOf (hSec h) = h := by
  have hb := hBody_len h
  have hs : sealN (hSec h) = h.tn := secB_seal (by omega) hk.tn
  have e0 : (hSec h).take 8 = le8 h.fi := by
    unfold hSec secB hBody
    rw [List.append_assoc, List.append_assoc, List.append_assoc, List.take_append_of_le_length (by rw [le8_len]; exact Nat.le_refl _), List.take_of_length_le (by rw [le8_len]; exact Nat.le_refl _)]
  have e1 : ((hSec h).drop 8).take 8 = le8 h.fr := by
    unfold hSec secB hBody
    rw [List.append_assoc, List.append_assoc, List.append_assoc, List.drop_append_of_le_length (by rw [le8_len]; exact Nat.le_refl _), List.drop_of_length_le (by rw [le8_len]; exact Nat.le_refl _), List.nil_append, List.take_append_of_le_length (by rw [le8_len]; exact Nat.le_refl _), List.take_of_length_le (by rw [le8_len]; exact Nat.le_refl _)]
  have d8 : (hSec h).drop 8 = le8 h.fr ++ (le8 h.su ++ (List.replicate (56 - (hBody h).length) 0 ++ le8 h.tn)) := by
    unfold hSec secB
    conv => lhs; rw [show hBody h = le8 h.fi ++ le8 h.fr ++ le8 h.su from rfl, List.append_assoc, List.append_assoc, List.append_assoc, List.drop_append_of_le_length (by rw [le8_len]; exact Nat.le_refl _), List.drop_of_length_le (by rw [le8_len]; exact Nat.le_refl _), List.nil_append]
    rfl
  have e2 : ((hSec h).drop 16).take 8 = le8 h.su := by
    have : (hSec h).drop 16 = ((hSec h).drop 8).drop 8 := by rw [List.drop_drop]
    rw [this, d8, List.drop_append_of_le_length (by rw [le8_len]; exact Nat.le_refl _), List.drop_of_length_le (by rw [le8_len]; exact Nat.le_refl _), List.nil_append, List.take_append_of_le_length (by rw [le8_len]; exact Nat.le_refl _), List.take_of_length_le (by rw [le8_len]; exact Nat.le_refl _)]
  have h1 := hk.fi
  have h2 := hk.fr
  have h3 := hk.su
  unfold hdOf
  rw [e0, e1, e2, hs, gr_le8 h1, gr_le8 (by omega), gr_le8 (by omega), if_neg (by omega)]

theorem newK_succ (S : List (List UInt8)) (k : Nat) : newK S h0 (k + 1) = if (hdOf (S.getD k [])).tn > (newK S h0 k).tn then hdOf (S.getD k []) else newK S h0 k := rfl
theorem newK_ge (S : List (List UInt8)) : (hdOf (S.getD 0 [])).tn ≤ (newK S h0 2).tn ∧ (hdOf (S.getD 1 [])).tn ≤ (newK S h0 2).tn := by
  have key : ∀ k, (hdOf (S.getD k [])).tn ≤ (newK S h0 (k + 1)).tn ∧ (newK S h0 k).tn ≤ (newK S h0 (k + 1)).tn := fun k => by
    rw [newK_succ]
    split
    · rename_i h
      exact ⟨Nat.le_refl _, Nat.le_of_lt h⟩
    · rename_i h
      exact ⟨by omega, Nat.le_refl _⟩
  exact ⟨Nat.le_trans (key 0).1 (key 1).2, (key 1).1⟩
theorem newK_same {S S' : List (List UInt8)} (h0' : S'.getD 0 [] = S.getD 0 []) (h1' : S'.getD 1 [] = S.getD 1 []) : newK S' h0 2 = newK S h0 2 := by
  have e1 : newK S' h0 1 = newK S h0 1 := by rw [newK_succ S' 0, newK_succ S 0, h0']; rfl
  rw [newK_succ S' 1, newK_succ S 1, e1, h1']
/-- The newer head counts. -/
theorem newK_new {S' : List (List UInt8)} {h' : Hd} (k : Nat) (hk : k < 2) (h1 : hdOf (S'.getD k []) = h') (h2 : (hdOf (S'.getD (1 - k) [])).tn < h'.tn) : newK S' h0 2 = h' := by
  have hp : 0 < h'.tn := by omega
  rcases k with _ | _ | k
  · have e1 : newK S' h0 1 = h' := by
      rw [newK_succ S' 0, h1, if_pos (by show h'.tn > h0.tn; exact hp)]
    rw [newK_succ S' 1, e1, if_neg (by simp only [Nat.sub_zero] at h2; omega)]
  · have e1 : (newK S' h0 1).tn < h'.tn := by
      rw [newK_succ S' 0]
      split
      · simpa using h2
      · exact hp
    have h1' : hdOf (S'.getD 1 []) = h' := h1
    rw [newK_succ S' 1, h1', if_pos e1]
  · omega

/-- The bodies of all records' sectors. -/
def imgR (R : List Rc) : List (List UInt8) := R.flatMap fun r => (List.range (secs r.b.length)).map fun j => bodyP (pc (recB r.b) j)
theorem imgR_len (R : List Rc) : (imgR R).length = gones R R.length := by
  unfold imgR gones
  rw [List.length_flatMap, List.take_length]
  simp
theorem imgR_app (A B : List Rc) : imgR (A ++ B) = imgR A ++ imgR B := by unfold imgR; simp
theorem imgR_take (R : List Rc) (m : Nat) : (imgR (R.take m)).length = gones R m := by
  rw [imgR_len]
  unfold gones
  rw [List.take_length]

/-- What lies on the disk. -/
structure Dsk (n : Nat) (S : List (List UInt8)) (h : Hd) (R : List Rc) : Prop where
  nk : newK S h0 2 = h
  tn : 0 < h.tn
  bd : ∀ i x, (imgR R)[i]? = some x → (S.getD (2 + (h.fr + i)) []).take 56 = x ∧ (h.su ≤ i → sealN (S.getD (2 + (h.fr + i)) []) = nmb n h i)
  zr : ∀ p, h.fr + (imgR R).length ≤ p → p < n - 2 → S.getD (2 + p) [] = z64
  nw : h.fr + (imgR R).length < n - 2
  su : h.su ≤ (imgR R).length
  sl : n ≤ S.length
def DskL (n : Nat) (S : List (List UInt8)) (L : Ls) (R : List Rc) : Prop := (L.h = h0 ∧ S = List.replicate n z64 ∧ R = [] ∧ L.ours = false) ∨ Dsk n S L.h R

theorem getD_set_other {S : List (List UInt8)} {k p : Nat} {x : List UInt8} (h : p ≠ k) : (S.set k x).getD p [] = S.getD p [] := by
  rw [List.getD_eq_getElem?_getD, List.getD_eq_getElem?_getD, List.getElem?_set_ne (by omega)]
theorem getD_set_self {S : List (List UInt8)} {k : Nat} {x : List UInt8} (h : k < S.length) : (S.set k x).getD k [] = x := by
  rw [List.getD_eq_getElem?_getD, List.getElem?_set_self h]
  rfl

/-- Behind the head's being laid. -/
theorem Dsk.lay {n : Nat} {S : List (List UInt8)} {L : Ls} {R : List Rc} (h : DskL n S L R) (hn : 3 ≤ n) (hu : L.used = gones R R.length) (m : Nat) (hm : m ≤ R.length) (hk : (nextH n L R m).Ok) : Dsk n (S.set ((L.h.tn + 1) % 2) (hSec (nextH n L R m))) (nextH n L R m) (R.drop m) := by
  have hmod : (L.h.tn + 1) % 2 < 2 := Nat.mod_lt _ (by omega)
  have hge : (hdOf (S.getD 0 [])).tn ≤ L.h.tn ∧ (hdOf (S.getD 1 [])).tn ≤ L.h.tn := by
    rcases h with ⟨e1, e2, -, -⟩ | h
    · have hz : ∀ k, k < 2 → (hdOf (S.getD k [])).tn ≤ L.h.tn := fun k hk9 => by
        rw [e2, List.getD_eq_getElem?_getD, List.getElem?_replicate, if_pos (by omega)]
        show (hdOf z64).tn ≤ _
        rw [z64_head]
        exact Nat.zero_le _
      exact ⟨hz 0 (by omega), hz 1 (by omega)⟩
    · have := newK_ge S
      rw [h.nk] at this
      exact this
  have hsl : n ≤ S.length := by
    rcases h with ⟨-, e2, -, -⟩ | h
    · rw [e2]; simp
    · exact h.sl
  have hnew : newK (S.set ((L.h.tn + 1) % 2) (hSec (nextH n L R m))) h0 2 = nextH n L R m := by
    refine newK_new _ hmod (by rw [getD_set_self (by omega)]; exact hdOf_hSec hk) ?_
    rw [getD_set_other (by omega)]
    show _ < L.h.tn + 1
    rcases (show (L.h.tn + 1) % 2 = 0 ∨ (L.h.tn + 1) % 2 = 1 by omega) with e | e
    · rw [e]; have := hge.2; simp only [Nat.sub_zero]; omega
    · rw [e]; have := hge.1; simp only [Nat.sub_self]; omega
  have himg : imgR R = imgR (R.take m) ++ imgR (R.drop m) := by rw [← imgR_app, List.take_append_drop]
  have hlen := imgR_take R m
  have hlr := imgR_len R
  have hsum : (imgR R).length = gones R m + (imgR (R.drop m)).length := by rw [himg, List.length_append, hlen]
  -- where the head stood
  have hbase : L.h.fr + (imgR R).length < n - 2 ∧ (∀ i x, (imgR R)[i]? = some x → (S.getD (2 + (L.h.fr + i)) []).take 56 = x) ∧ ∀ p, L.h.fr + (imgR R).length ≤ p → p < n - 2 → S.getD (2 + p) [] = z64 := by
    rcases h with ⟨e1, e2, e3, -⟩ | h
    · subst e3
      refine ⟨by rw [e1]; show 0 + 0 < _; omega, (fun i x hx => by cases hx), fun p _ hp => ?_⟩
      rw [e2, List.getD_eq_getElem?_getD, List.getElem?_replicate, if_pos (by omega)]
      rfl
    · exact ⟨h.nw, fun i x hx => (h.bd i x hx).1, h.zr⟩
  obtain ⟨hnw, hbd, hzr⟩ := hbase
  have hfr : (nextH n L R m).fr = L.h.fr + gones R m := by
    show (L.h.fr + gones R m) % (n - 2) = _
    exact Nat.mod_eq_of_lt (by omega)
  have hsu : (nextH n L R m).su = (imgR (R.drop m)).length := by
    show L.used - gones R m = _
    omega
  refine ⟨hnew, Nat.succ_pos _, fun i x hx => ?_, fun p hp hp2 => ?_, by rw [hfr]; omega, Nat.le_of_eq hsu, by rw [List.length_set]; exact hsl⟩
  · have hi : i < (imgR (R.drop m)).length := (List.getElem?_eq_some_iff.1 hx).1
    refine ⟨?_, fun h9 => by omega⟩
    rw [getD_set_other (by omega), hfr, show L.h.fr + gones R m + i = L.h.fr + (gones R m + i) from by omega]
    refine hbd _ x ?_
    rw [himg, List.getElem?_append_right (by omega), hlen, show gones R m + i - gones R m = i from by omega]
    exact hx
  · rw [getD_set_other (by omega)]
    exact hzr p (by rw [hfr] at hp; omega) hp2

theorem addS_get {n : Nat} {h : Hd} {u : Nat} {B : List UInt8} {S : List (List UInt8)} (hsl : n ≤ S.length) : ∀ k, h.fr + (u + k) < n - 2 → (∀ q, q < 2 → (addS n h u B S k).getD q [] = S.getD q []) ∧ ∀ p, p < n - 2 → (addS n h u B S k).getD (2 + p) [] = if h.fr + u ≤ p ∧ p < h.fr + u + k then secB (pc B (p - (h.fr + u))) (nmb n h (p - h.fr)) else S.getD (2 + p) []
  | 0, _ => ⟨fun _ _ => rfl, fun p _ => by rw [if_neg (by omega)]; rfl⟩
  | k + 1, hk => by
    obtain ⟨i1, i2⟩ := addS_get (h := h) (u := u) (S := S) (B := B) hsl k (by omega)
    have hp : plc n h (u + k) = 2 + (h.fr + (u + k)) := by
      unfold plc
      rw [Nat.mod_eq_of_lt (by omega)]
    have hlen := addS_len n h u B S k
    refine ⟨fun q hq => ?_, fun p hp2 => ?_⟩
    · rw [addS, hp, getD_set_other (k := 2 + (h.fr + (u + k))) (p := q) (by omega)]
      exact i1 q hq
    · rw [addS, hp]
      by_cases e : p = h.fr + (u + k)
      · subst e
        rw [getD_set_self (k := 2 + (h.fr + (u + k))) (by rw [hlen]; omega), if_pos (by omega), show h.fr + (u + k) - (h.fr + u) = k from by omega, show h.fr + (u + k) - h.fr = u + k from by omega]
      · rw [getD_set_other (k := 2 + (h.fr + (u + k))) (p := 2 + p) (by omega), i2 p hp2]
        by_cases e2 : h.fr + u ≤ p ∧ p < h.fr + u + k
        · rw [if_pos e2, if_pos (by omega)]
        · rw [if_neg e2, if_neg (by omega)]

/-- Behind one record more. -/
theorem Dsk.add {n : Nat} {S : List (List UInt8)} {H : Hd} {R : List Rc} {u : Nat} (h : Dsk n S H R) (hu : u = gones R R.length) (r : Rc) (hnw : H.fr + u + secs r.b.length < n - 2) (hnm : ∀ i, i ≤ 131072 → nmb n H i < 18446744073709551616) (hn2 : n ≤ 65536) : Dsk n (addS n H u (recB r.b) S (secs r.b.length)) H (R ++ [r]) := by
  have hlr := imgR_len R
  obtain ⟨g1, g2⟩ := addS_get (n := n) (h := H) (u := u) (B := recB r.b) h.sl (secs r.b.length) (by omega)
  have himg : imgR (R ++ [r]) = imgR R ++ (List.range (secs r.b.length)).map fun j => bodyP (pc (recB r.b) j) := by rw [imgR_app]; unfold imgR; simp
  have hlen : (imgR (R ++ [r])).length = u + secs r.b.length := by rw [himg]; simp; omega
  have hpl : ∀ j, (pc (recB r.b) j).length ≤ 56 := fun j => by rw [pc_len]; omega
  refine ⟨by rw [newK_same (g1 0 (by omega)) (g1 1 (by omega))]; exact h.nk, h.tn, fun i x hx => ?_, fun p hp hp2 => ?_, by rw [hlen]; omega, by have := h.su; omega, by rw [addS_len]; exact h.sl⟩
  · have hi : i < (imgR (R ++ [r])).length := (List.getElem?_eq_some_iff.1 hx).1
    rw [g2 (H.fr + i) (by omega)]
    by_cases hiu : i < u
    · rw [if_neg (by omega)]
      rw [himg, List.getElem?_append_left (by omega)] at hx
      exact h.bd i x hx
    · rw [if_pos (by omega)]
      rw [himg, List.getElem?_append_right (by omega), List.getElem?_map, List.getElem?_range (by omega)] at hx
      simp only [Option.map_some, Option.some.injEq] at hx
      have e1 : H.fr + i - (H.fr + u) = i - (imgR R).length := by omega
      have e2 : H.fr + i - H.fr = i := by omega
      rw [e1, e2]
      refine ⟨by rw [secB_take (hpl _)]; exact hx, fun _ => secB_seal (hpl _) (hnm i (by omega))⟩
  · rw [g2 p hp2, if_neg (by omega)]
    exact h.zr p (by omega) hp2

theorem offs_map (R : List Rc) (k : Nat) : offs (R.map (·.b)) k = gones R k := by
  unfold offs gones
  rw [← List.map_take, List.map_map]
  rfl
theorem imgR_get {R : List Rc} {k : Nat} {r : Rc} (h : R[k]? = some r) {j : Nat} (hj : j < secs r.b.length) : (imgR R)[gones R k + j]? = some (bodyP (pc (recB r.b) j)) := by
  have hk : k < R.length := (List.getElem?_eq_some_iff.1 h).1
  have he : R[k] = r := (List.getElem?_eq_some_iff.1 h).2
  have e1 : R = R.take k ++ (r :: R.drop (k + 1)) := by
    conv => lhs; rw [← List.take_append_drop k R, List.drop_eq_getElem_cons hk, he]
  have e2 : imgR R = imgR (R.take k) ++ (((List.range (secs r.b.length)).map fun j => bodyP (pc (recB r.b) j)) ++ imgR (R.drop (k + 1))) := by
    conv => lhs; rw [e1, imgR_app]
    unfold imgR
    simp
  rw [e2, List.getElem?_append_right (by rw [imgR_take]; omega), imgR_take, show gones R k + j - gones R k = j from by omega, List.getElem?_append_left (by simp; exact hj), List.getElem?_map, List.getElem?_range hj]
  rfl

/-- What a log opened anew finds. -/
theorem Dsk.ond {n : Nat} {S : List (List UInt8)} {H : Hd} {R : List Rc} (h : Dsk n S H R) (hn2 : n ≤ 65536) (hR : R.length ≤ 90000) (hrl : ∀ r ∈ R, r.b.length ≤ 32768) : Ond n S (newK S h0 2) (R.map (·.b)) := by
  have hlr := imgR_len R
  have hnw := h.nw
  have htn := h.tn
  rw [h.nk]
  have hplc : ∀ i, i ≤ (imgR R).length → plc n H i = 2 + (H.fr + i) := fun i hi => by
    unfold plc
    rw [Nat.mod_eq_of_lt (by omega)]
  refine ⟨fun k l hk j hj => ?_, ?_, fun l hl => ?_, by rw [List.length_map]; exact hR, ?_⟩
  · rw [List.getElem?_map] at hk
    cases hr : R[k]? with
    | none => rw [hr] at hk; cases hk
    | some r =>
      rw [hr] at hk
      simp only [Option.map_some, Option.some.injEq] at hk
      subst hk
      have hx := imgR_get hr hj
      have hi : gones R k + j < (imgR R).length := (List.getElem?_eq_some_iff.1 hx).1
      obtain ⟨b1, b2⟩ := h.bd _ _ hx
      rw [offs_map]
      unfold pieceM
      rw [if_neg (by omega), hplc _ (by omega), if_neg (fun e => e.2 (b2 e.1)), b1]
  · refine .inl ?_
    rw [List.length_map, offs_map, ← hlr]
    unfold pieceM
    rw [if_neg (by omega), hplc _ (Nat.le_refl _), h.zr _ (Nat.le_refl _) (by omega), if_pos]
    refine ⟨h.su, ?_⟩
    rw [z64_seal]
    unfold nmb
    have : 0 < H.tn * (n - 2) := Nat.mul_pos htn (by omega)
    omega
  · obtain ⟨r, hr, rfl⟩ := List.mem_map.1 hl
    exact hrl r hr
  · rw [List.length_map, offs_map, ← hlr]
    omega
end Go.Proofs.YtcbbklbjfknnlaaDoor
