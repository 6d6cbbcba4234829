/-
  WAL: a log that goes on, and what of it waits; falls.
-/
import Derived.Test.YtcbbklbjfknnlaaDoorWzh
set_option linter.unusedVariables false
set_option linter.unusedSimpArgs false
set_option maxRecDepth 100000
namespace Go.Proofs.YtcbbklbjfknnlaaDoor
open Go.RowKit

theorem addQ_get (n : Nat) (h : Hd) (u : Nat) (B : List UInt8) (S : List (List UInt8)) : ∀ s j x, (addQ n h u B S s)[j]? = some x → j < s ∧ x = ⟨plc n h (u + j), (addS n h u B S j).getD (plc n h (u + j)) [], secB (pc B j) (nmb n h (u + j))⟩
  | 0, j, x, hx => by cases hx
  | s + 1, j, x, hx => by
    have hl := addQ_len n h u B S s
    rw [addQ] at hx
    rcases Nat.lt_or_ge j s with e | e
    · rw [List.getElem?_append_left (by omega)] at hx
      have := addQ_get n h u B S s j x hx
      exact ⟨by omega, this.2⟩
    · have hj := (List.getElem?_eq_some_iff.1 hx).1
      rw [List.length_append, hl, List.length_singleton] at hj
      obtain rfl : j = s := by omega
      rw [List.getElem?_append_right (by omega), hl, Nat.sub_self] at hx
      simp only [List.getElem?_cons_zero, Option.some.injEq] at hx
      exact ⟨by omega, hx.symm⟩

theorem Wts.add {n : Nat} {S : List (List UInt8)} {Q : List Wr} {H : Hd} {R : List Rc} {u a s : Nat} {B : List UInt8} (hw : Wts S Q H u a) (h : Dsk n S H R) (hu : u = gones R R.length) (hf : H.fr + u + s < n - 2) : Wts (addS n H u B S s) (Q ++ addQ n H u B S s) H (u + s) a := by
  have hlr := imgR_len R
  have hql := addQ_len n H u B S s
  have hlen := hw.len
  have hs := addS_get (n := n) (h := H) (u := u) (B := B) h.sl s (by omega)
  refine ⟨hw.su, by rw [List.length_append, hql]; omega, fun i x hx => ?_⟩
  have hi := (List.getElem?_eq_some_iff.1 hx).1
  rw [List.length_append, hql] at hi
  rcases Nat.lt_or_ge i Q.length with e | e
  · rw [List.getElem?_append_left e] at hx
    obtain ⟨e1, e2, e3⟩ := hw.each i x hx
    refine ⟨e1, e2, ?_⟩
    rw [hs.2 (H.fr + (a + i)) (by omega), if_neg (by omega)]
    exact e3
  · rw [List.getElem?_append_right e] at hx
    obtain ⟨hj, rfl⟩ := addQ_get n H u B S s _ x hx
    have hij : u + (i - Q.length) = a + i := by omega
    rw [hij]
    have hp : plc n H (a + i) = 2 + (H.fr + (a + i)) := by
      unfold plc
      rw [Nat.mod_eq_of_lt (by omega)]
    have hs2 := addS_get (n := n) (h := H) (u := u) (B := B) h.sl (i - Q.length) (by omega)
    refine ⟨hp, ?_, ?_⟩
    · show (addS n H u B S (i - Q.length)).getD _ [] = _
      rw [hp, hs2.2 _ (by omega), if_neg (by omega)]
      exact h.zr _ (by omega) (by omega)
    · show secB _ _ = _
      rw [hs.2 _ (by omega), if_pos (by omega), show H.fr + (a + i) - (H.fr + u) = i - Q.length from by omega, show H.fr + (a + i) - H.fr = a + i from by omega]

/-- A log that goes on; of its records m at least are safe. -/
def LiveC (base lb db sb n : Nat) (vw rv : Value) (R : List Rc) (t f q T m : Nat) (w : World) : Prop := ∃ S Q L m', Liv base w lb db sb n vw rv S Q L R t f q ∧ DskL n S L R ∧ L.h.fr + L.used ≤ T ∧ m ≤ m' ∧ m' ≤ R.length ∧ Wts S Q L.h L.used (gones R m')

theorem gones_left (R : List Rc) (r : Rc) {m : Nat} (hm : m ≤ R.length) : gones (R ++ [r]) m = gones R m := by
  unfold gones
  rw [List.take_append_of_le_length hm]

section
variable {base : Nat} {w w' : World} {lb db sb n t f q T m : Nat} {vw rv : Value} {S : List (List UInt8)} {Q : List Wr} {L : Ls} {R : List Rc}

theorem LiveC.live (h : LiveC base lb db sb n vw rv R t f q T m w) : Live base lb db sb n vw rv R t f q w := by
  obtain ⟨S, Q, L, m', h, -⟩ := h
  exact ⟨S, Q, L, h⟩
theorem LiveC.old (h : LiveC base lb db sb n vw rv R t f q T m w) (hb : Below w.heap.size w w') : LiveC base lb db sb n vw rv R t f q T m w' := by
  obtain ⟨S, Q, L, m', h, h2⟩ := h
  exact ⟨S, Q, L, m', { h with g := h.g.old hb }, h2⟩
theorem LiveC.mono {t' q' T' : Nat} (h : LiveC base lb db sb n vw rv R t f q T m w) (ht : t ≤ t') (hq : q ≤ q') (hT : T ≤ T') : LiveC base lb db sb n vw rv R t' f q' T' m w := by
  obtain ⟨S, Q, L, m', h, h2, h3, h4⟩ := h
  exact ⟨S, Q, L, m', { h with tn := Nat.le_trans h.tn ht, ql := Nat.le_trans h.ql hq }, h2, Nat.le_trans h3 hT, h4⟩
theorem LiveC.kept {X : Nat → Prop} (h : LiveC base lb db sb n vw rv R t f q T m w) (hk : Keep X w w') (hx : ∀ k, GL db sb vw lb rv k → ¬ X k) (hb : ∀ r ∈ R, r.b ≠ [] → ∀ a, r.a = some a → ¬ X a.block) : LiveC base lb db sb n vw rv R t f q T m w' := by
  obtain ⟨S, Q, L, m', h, h2⟩ := h
  exact ⟨S, Q, L, m', { h with g := h.g.kept hk hx hb }, h2⟩

theorem wts_append (h : Lg base w lb db sb n vw rv S Q L R) (hd : DskL n S L R) (hT : L.h.fr + L.used ≤ T) (hu : L.used = gones R R.length) (hn : 3 ≤ n) (hk : L.h.Ok) (ht : L.h.tn < 1000000000) (r : Rc) (hnw : T + secs r.b.length < n - 2) {m' : Nat} (hm : m' ≤ R.length) (hw : Wts S Q L.h L.used (gones R m')) :
    ∃ m2, m' ≤ m2 ∧ m2 ≤ (R ++ [r]).length ∧ Wts (addS n (hdA n L R) L.used (recB r.b) (sA n L R S) (secs r.b.length)) (qB L Q ++ addQ n (hdA n L R) L.used (recB r.b) (sA n L R S) (secs r.b.length)) (hdA n L R) (L.used + secs r.b.length) (gones (R ++ [r]) m2) := by
  have hn2 := h.d.few.2.1
  cases ho : L.ours with
  | true =>
    have e1 : sA n L R S = S := by simp [sA, ho]
    have e2 : hdA n L R = L.h := by simp [hdA, ho]
    have e3 : qB L Q = Q := by simp [qB, ho]
    rw [e1, e2, e3]
    rcases hd with ⟨-, -, -, h4⟩ | hd
    · rw [ho] at h4; cases h4
    · refine ⟨m', Nat.le_refl _, by rw [List.length_append]; omega, ?_⟩
      rw [gones_left R r hm]
      exact hw.add hd hu (by omega)
  | false =>
    have e1 : sA n L R S = S.set ((L.h.tn + 1) % 2) (hSec (nextH n L R 0)) := by simp [sA, ho]
    have e2 : hdA n L R = nextH n L R 0 := by simp [hdA, ho]
    have e9 : qB L Q = [] := by simp [qB, ho]
    have hok := nextH_ok h hn hk (by omega) (by omega)
    have e3 : gones R 0 = 0 := by unfold gones; simp
    have hfr : (nextH n L R 0).fr = L.h.fr := by
      show (L.h.fr + gones R 0) % (n - 2) = _
      rw [e3, Nat.add_zero]
      exact Nat.mod_eq_of_lt (by omega)
    have hl := Dsk.lay hd hn hu 0 (Nat.zero_le _) hok.1
    rw [List.drop_zero] at hl
    rw [e1, e2, e9]
    refine ⟨R.length, hm, by rw [List.length_append]; omega, ?_⟩
    rw [gones_left R r (Nat.le_refl _)]
    refine Wts.add (Q := []) ⟨?_, ?_, fun i x hx => by cases hx⟩ hl hu (by rw [hfr]; omega)
    · rw [hok.2]; omega
    · simp; omega

/-- What Append comes to. -/
def AppC (base lb db sb n : Nat) (vw rv : Value) (R : List Rc) (t f q T m : Nat) (l : List UInt8) (w w' : World) : Prop :=
  ∃ vw' rv' r, r.b = l ∧ (∀ a, r.a = some a → w.heap.size ≤ a.block) ∧ LiveC base lb db sb n vw' rv' (R ++ [r]) (t + 1) f (q + secs l.length) (T + secs l.length) m w' ∧ Gfr db sb lb vw vw' rv rv' w w'

theorem append_C (h : LiveC base lb db sb n vw rv R t f q T m w) {ao : Option Addr} {c : Nat} {l : List UInt8} (hx : Rd w (.slice ao l.length c) l) (hl : l.length ≤ 32768) (hn : 3 ≤ n) (ht : t < 1000000000) (hq : q ≤ 90000) (hT : T + secs l.length < n - 2) (hR : R.length + 1 ≤ 1000000) (hxo : l ≠ [] → ∀ k, blk (.slice ao l.length c) = some k → ¬ GL db sb vw lb rv k) :
    Calls Tryd.prog 11 #[.pointer (some ⟨lb, 0, none⟩), .slice ao l.length c] w (fun e w' => e = .returned (.int .i64 0) ∧ AppC base lb db sb n vw rv R t f q T m l w w') := by
  obtain ⟨S, Q, L, m', h, hd, hp, hm1, hm2, hW⟩ := h
  have hn2 := h.g.d.few.2.1
  have hfit' : L.used + secs l.length ≤ n - 2 := by omega
  have hok : (hdA n L R).Ok ∧ (hdA n L R).tn ≤ t + 1 ∧ (hdA n L R).fi = f ∧ (hdA n L R).su ≤ L.used := by
    unfold hdA
    split
    · rename_i ho
      exact ⟨h.ok, Nat.le_succ_of_le h.tn, h.fi, h.su ho⟩
    · rename_i ho
      have := nextH_ok h.g hn h.ok (by have := h.tn; omega) h.fit
      refine ⟨this.1, ?_, ?_, Nat.le_of_eq this.2⟩
      · show L.h.tn + 1 ≤ t + 1
        have := h.tn; omega
      · show L.h.fi + 0 = f
        exact h.fi
  refine append_of_add h.g h.wt h.dn hl (by have := h.fit; omega) hfit' _ (fun W hb => ?_)
  refine add_any (h.g.old hb) ⟨h.wt, hl, hn, h.ok, fun _ => by have := h.tn; omega, hfit', by have := h.ql; omega, h.su, fun i hi => nmb_lt hn2 _ i (by have := hok.2.1; omega) hi, hxo, hR, h.rl⟩ (hx.old hb) _ ?_
  rintro w' ⟨vw', rv', Q', r, hr, hr0, hL, hQ, hG⟩
  have hds := dsk_append h.g hd hp h.us hn h.ok (by have := h.tn; omega) r (by rw [hr]; exact hT)
  obtain ⟨m2, hm3, hm4, hW2⟩ := wts_append h.g hd hp h.us hn h.ok (by have := h.tn; omega) r (by rw [hr]; exact hT) hm2 hW
  rw [hr] at hds hW2
  rw [← hQ] at hW2
  refine ⟨vw', rv', r, hr, fun a ha => Nat.le_trans hb.size (hr0 a ha), ⟨_, _, _, m2, ⟨hL, rfl, h.dn, hok.1, hok.2.1, hok.2.2.1, ?_, fun _ => ?_, ?_, hfit', fun q hq9 => ?_⟩, .inr hds.1, hds.2, by omega, hm4, hW2⟩, (Gfr.of_below hb).trans hG⟩
  · show L.used + secs l.length = _
    rw [gones_add, hr, h.us]
  · show (hdA n L R).su ≤ L.used + secs l.length
    have := hok.2.2.2; omega
  · rw [hQ, List.length_append, qB_len, addQ_len]
    have : qA L Q ≤ q := by
      unfold qA
      split
      · exact h.ql
      · omega
    omega
  · rcases List.mem_append.1 hq9 with e | e
    · exact h.rl q e
    · obtain rfl := List.mem_singleton.1 e
      rw [hr]; exact hl

def SynC (base lb db sb n : Nat) (vw rv : Value) (R : List Rc) (t f T : Nat) (w w' : World) : Prop :=
  ∃ vw', LiveC base lb db sb n vw' rv R t f 0 T R.length w' ∧ Gfr db sb lb vw vw' rv rv w w'
theorem sync_C (h : LiveC base lb db sb n vw rv R t f q T m w) : Calls Tryd.prog 12 #[.pointer (some ⟨lb, 0, none⟩)] w (fun e w' => e = .returned (.int .i64 0) ∧ SynC base lb db sb n vw rv R t f T w w') := by
  obtain ⟨S, Q, L, m', h, hd, hp, hm1, hm2, hW⟩ := h
  refine (sync_ok h.g h.wt h.dn).mono ?_
  rintro e w' ⟨rfl, vw', hL, hG⟩
  refine ⟨rfl, vw', ⟨S, [], _, R.length, ⟨hL, rfl, h.dn, h.ok, h.tn, h.fi, h.us, h.su, by simp, h.fit, h.rl⟩, hd, hp, Nat.le_refl _, Nat.le_refl _, ⟨?_, ?_, fun i x hx => by cases hx⟩⟩, hG⟩
  · have := hW.su
    have := gones_mono R m'
    show L.h.su ≤ _
    omega
  · show gones R R.length + 0 = L.used
    rw [h.us]; rfl

/-- What a disk has, of whose log's records some are there. -/
def Onk (n : Nat) (S : List (List UInt8)) (H : Hd) (R : List Rc) (k : Nat) : Prop := newK S h0 2 = H ∧ H.Ok ∧ H.tn ≤ 1000000 ∧ H.fi = 0 ∧ Ond n S H ((R.take k).map (·.b))
/-- The disk behind a fall, and a start. -/
def FallC (base lb db sb n : Nat) (R : List Rc) (m : Nat) (w' : World) : Prop := ∃ S k, m ≤ k ∧ k ≤ R.length ∧ Dk base w' db sb n (.slice none 0 0) S [] false 0 ∧ Onk n S (newK S h0 2) R k
end
end Go.Proofs.YtcbbklbjfknnlaaDoor
