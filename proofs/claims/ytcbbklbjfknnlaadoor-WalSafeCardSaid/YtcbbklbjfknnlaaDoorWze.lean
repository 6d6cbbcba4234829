/-
  WAL: a log that goes on, with what lies on its disk.
-/
import Derived.Test.YtcbbklbjfknnlaaDoorWzd
set_option linter.unusedVariables false
set_option linter.unusedSimpArgs false
set_option maxRecDepth 100000
namespace Go.Proofs.YtcbbklbjfknnlaaDoor
open Go.RowKit

/-- A log that goes on; no further than T on its ring. -/
def LiveD (base lb db sb n : Nat) (vw rv : Value) (R : List Rc) (t f q T : Nat) (w : World) : Prop := ∃ S Q L, Liv base w lb db sb n vw rv S Q L R t f q ∧ DskL n S L R ∧ L.h.fr + L.used ≤ T

section
variable {base : Nat} {w w' : World} {lb db sb n t f q T : Nat} {vw rv : Value} {S : List (List UInt8)} {Q : List Wr} {L : Ls} {R : List Rc}

theorem LiveD.live (h : LiveD base lb db sb n vw rv R t f q T w) : Live base lb db sb n vw rv R t f q w := by
  obtain ⟨S, Q, L, h, -⟩ := h
  exact ⟨S, Q, L, h⟩
theorem LiveD.old (h : LiveD base lb db sb n vw rv R t f q T w) (hb : Below w.heap.size w w') : LiveD base lb db sb n vw rv R t f q T w' := by
  obtain ⟨S, Q, L, h, h2⟩ := h
  exact ⟨S, Q, L, { h with g := h.g.old hb }, h2⟩
theorem LiveD.mono {t' q' T' : Nat} (h : LiveD base lb db sb n vw rv R t f q T w) (ht : t ≤ t') (hq : q ≤ q') (hT : T ≤ T') : LiveD base lb db sb n vw rv R t' f q' T' w := by
  obtain ⟨S, Q, L, h, h2, h3⟩ := h
  exact ⟨S, Q, L, { h with tn := Nat.le_trans h.tn ht, ql := Nat.le_trans h.ql hq }, h2, Nat.le_trans h3 hT⟩

/-- The disk behind Append. -/
theorem dsk_append (h : Lg base w lb db sb n vw rv S Q L R) (hd : DskL n S L R) (hT : L.h.fr + L.used ≤ T) (hu : L.used = gones R R.length) (hn : 3 ≤ n) (hk : L.h.Ok) (ht : L.h.tn < 1000000000) (r : Rc) (hnw : T + secs r.b.length < n - 2) :
    Dsk n (addS n (hdA n L R) L.used (recB r.b) (sA n L R S) (secs r.b.length)) (hdA n L R) (R ++ [r]) ∧ (hdA n L R).fr + (L.used + secs r.b.length) ≤ T + secs r.b.length := by
  have hn2 := h.d.few.2.1
  cases ho : L.ours with
  | true =>
    have e1 : sA n L R S = S := by simp [sA, ho]
    have e2 : hdA n L R = L.h := by simp [hdA, ho]
    rw [e1, e2]
    rcases hd with ⟨-, -, -, h4⟩ | hd
    · rw [ho] at h4; cases h4
    · exact ⟨hd.add hu r (by omega) (fun i hi => nmb_lt hn2 _ i (by omega) hi) hn2, by omega⟩
  | false =>
    have e1 : sA n L R S = S.set ((L.h.tn + 1) % 2) (hSec (nextH n L R 0)) := by simp [sA, ho]
    have e2 : hdA n L R = nextH n L R 0 := by simp [hdA, ho]
    have hok := nextH_ok h hn hk (by omega) (by omega)
    have e3 : gones R 0 = 0 := by unfold gones; simp
    have hfr : (nextH n L R 0).fr = L.h.fr := by
      show (L.h.fr + gones R 0) % (n - 2) = _
      rw [e3, Nat.add_zero]
      exact Nat.mod_eq_of_lt (by omega)
    have hl := Dsk.lay hd hn hu 0 (Nat.zero_le _) hok.1
    rw [List.drop_zero] at hl
    rw [e1, e2]
    exact ⟨hl.add hu r (by rw [hfr]; omega) (fun i hi => nmb_lt hn2 _ i (by show L.h.tn + 1 ≤ _; omega) hi) hn2, by rw [hfr]; omega⟩

/-- What Append comes to. -/
def AppD (base lb db sb n : Nat) (vw rv : Value) (R : List Rc) (t f q T : Nat) (l : List UInt8) (w w' : World) : Prop :=
  ∃ vw' rv' r, r.b = l ∧ (∀ a, r.a = some a → w.heap.size ≤ a.block) ∧ LiveD base lb db sb n vw' rv' (R ++ [r]) (t + 1) f (q + secs l.length) (T + secs l.length) w' ∧ Gfr db sb lb vw vw' rv rv' w w'

theorem append_D (h : LiveD base lb db sb n vw rv R t f q T w) {ao : Option Addr} {c : Nat} {l : List UInt8} (hx : Rd w (.slice ao l.length c) l) (hl : l.length ≤ 32768) (hn : 3 ≤ n) (ht : t < 1000000000) (hq : q ≤ 90000) (hT : T + secs l.length < n - 2) (hR : R.length + 1 ≤ 1000000) (hxo : l ≠ [] → ∀ k, blk (.slice ao l.length c) = some k → ¬ GL db sb vw lb rv k) :
    Calls Tryd.prog 11 #[.pointer (some ⟨lb, 0, none⟩), .slice ao l.length c] w (fun e w' => e = .returned (.int .i64 0) ∧ AppD base lb db sb n vw rv R t f q T l w w') := by
  obtain ⟨S, Q, L, h, hd, hp⟩ := h
  have hn2 := h.g.d.few.2.1
  have hfit' : L.used + secs l.length ≤ n - 2 := by omega
  have hok : (hdA n L R).Ok ∧ (hdA n L R).tn ≤ t + 1 ∧ (hdA n L R).fi = f ∧ (hdA n L R).su ≤ L.used := by
    unfold hdA
    split
    · rename_i ho
      exact ⟨h.ok, Nat.le_succ_of_le h.tn, h.fi, h.su ho⟩
    · rename_i ho
      have := nextH_ok h.g hn h.ok (by have := h.tn; omega) h.fit
      refine ⟨this.1, ?_, ?_, Nat.le_of_eq this.2⟩
      · show L.h.tn + 1 ≤ t + 1
        have := h.tn; omega
      · show L.h.fi + 0 = f
        exact h.fi
  refine append_of_add h.g h.wt h.dn hl (by have := h.fit; omega) hfit' _ (fun W hb => ?_)
  refine add_any (h.g.old hb) ⟨h.wt, hl, hn, h.ok, fun _ => by have := h.tn; omega, hfit', by have := h.ql; omega, h.su, fun i hi => nmb_lt hn2 _ i (by have := hok.2.1; omega) hi, hxo, hR, h.rl⟩ (hx.old hb) _ ?_
  rintro w' ⟨vw', rv', Q', r, hr, hr0, hL, hQ, hG⟩
  have hds := dsk_append h.g hd hp h.us hn h.ok (by have := h.tn; omega) r (by rw [hr]; exact hT)
  rw [hr] at hds
  refine ⟨vw', rv', r, hr, fun a ha => Nat.le_trans hb.size (hr0 a ha), ⟨_, _, _, ⟨hL, rfl, h.dn, hok.1, hok.2.1, hok.2.2.1, ?_, fun _ => ?_, ?_, hfit', fun q hq9 => ?_⟩, .inr hds.1, hds.2⟩, (Gfr.of_below hb).trans hG⟩
  · show L.used + secs l.length = _
    rw [gones_add, hr, h.us]
  · show (hdA n L R).su ≤ L.used + secs l.length
    have := hok.2.2.2; omega
  · rw [hQ, List.length_append, qB_len, addQ_len]
    have : qA L Q ≤ q := by
      unfold qA
      split
      · exact h.ql
      · omega
    omega
  · rcases List.mem_append.1 hq9 with e | e
    · exact h.rl q e
    · obtain rfl := List.mem_singleton.1 e
      rw [hr]; exact hl

def SynD (base lb db sb n : Nat) (vw rv : Value) (R : List Rc) (t f T : Nat) (w w' : World) : Prop :=
  ∃ vw', LiveD base lb db sb n vw' rv R t f 0 T w' ∧ Gfr db sb lb vw vw' rv rv w w'
theorem sync_D (h : LiveD base lb db sb n vw rv R t f q T w) : Calls Tryd.prog 12 #[.pointer (some ⟨lb, 0, none⟩)] w (fun e w' => e = .returned (.int .i64 0) ∧ SynD base lb db sb n vw rv R t f T w w') := by
  obtain ⟨S, Q, L, h, hd, hp⟩ := h
  refine (sync_ok h.g h.wt h.dn).mono ?_
  rintro e w' ⟨rfl, vw', hL, hG⟩
  exact ⟨rfl, vw', ⟨S, [], _, ⟨hL, rfl, h.dn, h.ok, h.tn, h.fi, h.us, h.su, by simp, h.fit, h.rl⟩, hd, hp⟩, hG⟩

def CuD (base lb db sb n : Nat) (vw rv : Value) (R : List Rc) (t f T m : Nat) (w w' : World) : Prop :=
  ∃ vw' rv', LiveD base lb db sb n vw' rv' (R.drop m) (t + 1) (f + m) 0 T w' ∧ Gfr db sb lb vw vw' rv rv' w w'

/-- 'Cut' of nothing: it syncs. -/
theorem cut_same (h : LiveD base lb db sb n vw rv R t f q T w) (hf : f + R.length < 18446744073709551616) : Calls Tryd.prog 20 #[.pointer (some ⟨lb, 0, none⟩), .int .u64 (f : Int)] w (fun e w' => e = .returned (.int .i64 0) ∧ SynD base lb db sb n vw rv R t f T w w') := by
  have hw := h.live
  obtain ⟨S, Q, L, hL⟩ := h.live
  have CN := hid (none_any hL.g.l)
  have H := hid h
  have CF : Hid (∀ W, Below w.heap.size w W → Calls Tryd.prog 16 #[.pointer (some ⟨lb, 0, none⟩)] W (fun e w' => e = .returned (.int .u64 (f : Int)) ∧ w' = W)) := hid fun W hW => first_live (hw.old hW)
  have CX : Hid (∀ W, Below w.heap.size w W → Calls Tryd.prog 15 #[.pointer (some ⟨lb, 0, none⟩)] W (Draws W (.int .u64 ((f + R.length : Nat) : Int)))) := hid fun W hW => next_live (hw.old hW) hf
  have CS : Hid (∀ W, Below w.heap.size w W → Calls Tryd.prog 12 #[.pointer (some ⟨lb, 0, none⟩)] W (fun e w' => e = .returned (.int .i64 0) ∧ SynD base lb db sb n vw rv R t f T w w')) := hid fun W hW => (sync_D (H.out.old hW)).mono fun e w' ⟨he, vw', q1, q2⟩ => ⟨he, vw', q1, (Gfr.of_below hW).trans q2⟩
  obtain ⟨c, hc⟩ : ∃ c, c = f + R.length := ⟨_, rfl⟩
  rw [← hc] at CX
  have h2 : ¬ ((c : Int) < (f : Int)) := by omega
  clear h hw hL hc hf
  go_enter Tryd.func20, Tryd.ntmps20
  go_wp2_with (first
    | (go_at_call 25; refine CN.out.mono ?_; rintro e w2 ⟨rfl, rfl⟩)
    | (go_at_call 16; refine (CF.out _ (Below.refl _ _)).mono ?_; rintro e w3 ⟨rfl, rfl⟩)
    | (go_at_call 15; refine (CX.out _ (Below.refl _ _)).mono ?_; rintro e w3 ⟨rfl, k9, rfl⟩))
  go_wp2_with (first
    | (go_at_call 16; refine (CF.out _ (Below.drewN9 _ k9)).mono ?_; rintro e w4 ⟨rfl, rfl⟩)
    | (go_at_call 12; refine (CS.out _ (Below.drewN9 _ k9)).mono ?_; rintro e w5 ⟨rfl, hp⟩))
  go_ret
  exact ⟨rfl, hp⟩

theorem cut_D (h : LiveD base lb db sb n vw rv R t f q T w) (m : Nat) (hm : m ≤ R.length) (hm0 : 0 < m) (hn : 3 ≤ n) (ht : t < 1000000000) (hf : f ≤ 1000000000) (hR : R.length ≤ 1000000) (hT : T < n - 2) : Calls Tryd.prog 20 #[.pointer (some ⟨lb, 0, none⟩), .int .u64 ((f + m : Nat) : Int)] w (fun e w' => e = .returned (.int .i64 0) ∧ CuD base lb db sb n vw rv R t f T m w w') := by
  obtain ⟨S, Q, L, h, hd, hp⟩ := h
  have hn2 := h.g.d.few.2.1
  have hg : gones R m ≤ L.used := by rw [h.us]; exact gones_mono R m
  have hfi := h.fi
  rw [← hfi]
  have htn := h.tn
  have hfit := h.fit
  refine (cut_ok h.g h.wt h.dn m hm hm0 hR hn hg hfit h.ok (by omega) (by omega) h.rl (fun j hj => ?_)).mono ?_
  · have := gones_mono R j
    rw [← h.us] at this
    omega
  rintro e w' ⟨rfl, vw', rv', hL, hG⟩
  have hmod := Nat.mod_lt (L.h.fr + gones R m) (show 0 < n - 2 by omega)
  have hok : (nextH n L R m).Ok := by
    refine ⟨?_, ?_, ?_, ?_⟩
    · show L.h.tn + 1 < _
      omega
    · show L.h.fi + m < _
      omega
    · show (L.h.fr + gones R m) % (n - 2) ≤ 65536
      omega
    · show L.used - gones R m ≤ 65536
      omega
  have hds := Dsk.lay hd hn h.us m hm hok
  have hpos : (nextH n L R m).fr + (L.used - gones R m) ≤ T := by
    have : (L.h.fr + gones R m) % (n - 2) = L.h.fr + gones R m := Nat.mod_eq_of_lt (by omega)
    show (L.h.fr + gones R m) % (n - 2) + (L.used - gones R m) ≤ T
    omega
  refine ⟨rfl, vw', rv', ⟨_, [], _, ⟨hL, rfl, h.dn, hok, ?_, rfl, ?_, fun _ => Nat.le_refl _, by simp, ?_, fun q hq9 => h.rl q (List.mem_of_mem_drop hq9)⟩, .inr hds, hpos⟩, hG⟩
  · show L.h.tn + 1 ≤ t + 1
    omega
  · show L.used - gones R m = _
    rw [h.us, gones_cut R m]
    omega
  · show L.used - gones R m ≤ n - 2
    omega

theorem newK_zero (hn : 2 ≤ n) : newK (List.replicate n z64) h0 2 = h0 := by
  have h1 : ∀ k, k < n → (List.replicate n z64).getD k [] = z64 := fun k hk => by
    rw [List.getD_eq_getElem?_getD, List.getElem?_replicate_of_lt hk]; rfl
  have st : ∀ k, k < n → newK (List.replicate n z64) h0 k = h0 → newK (List.replicate n z64) h0 (k + 1) = h0 := fun k hk e => by
    rw [newK_succ]
    split
    · rw [h1 k hk]; exact z64_head
    · exact e
  exact st 1 (by omega) (st 0 (by omega) rfl)

/-- Opened anew, a log is as it was. -/
def OpnD (base db sb n : Nat) (vw : Value) (R : List Rc) (t f q : Nat) (w : World) (e : Ending) (w' : World) : Prop :=
  ∃ lb rv R', e = .returned (.tuple #[.pointer (some ⟨lb, 0, none⟩), .int .i64 0]) ∧ R'.map (·.b) = R.map (·.b) ∧ Live base lb db sb n vw rv R' t f q w' ∧ Below w.heap.size w w'
theorem open_D (h : LiveD base lb db sb n vw rv R t f q T w) (hn : 3 ≤ n) (ht : t < 1000000000) (hR : R.length ≤ 90000) : Calls Tryd.prog 8 #[.pointer (some ⟨db, 0, none⟩)] w (OpnD base db sb n vw R t f q w) := by
  obtain ⟨S, Q, L, h, hd, hp⟩ := h
  have hn2 := h.g.d.few.2.1
  have hond : Ond n S (newK S h0 2) (R.map (·.b)) ∧ newK S h0 2 = L.h := by
    rcases hd with ⟨e1, e2, e3, -⟩ | hd
    · subst e2 e3
      have hz := newK_zero (n := n) (by omega)
      refine ⟨?_, by rw [hz, e1]⟩
      rw [hz]
      exact ⟨fun k l hk => (by cases hk), .inl (by unfold pieceM; rw [if_pos (.inr rfl)]), fun l hl => (by cases hl), by simp, by simp [offs]⟩
    · exact ⟨hd.ond hn2 hR h.rl, hd.nk⟩
  have htn := h.tn
  refine (open_some h.g.d hn (fun j hj => nmb_lt hn2 _ j (by rw [hond.2]; omega) hj) _ hond.1).mono ?_
  rintro e w' ⟨lb', rv', R', rfl, hR', hL, -, -, hb⟩
  have hlen : R'.length = R.length := by simpa using congrArg List.length hR'
  have hus : offs (R.map (·.b)) (R.map (·.b)).length = gones R' R'.length := by rw [← hR', List.length_map, offs_map]
  rw [hond.2] at hL
  have hro := hond.1.room
  have hgo : gones R' R'.length = gones R R.length := by rw [← hus, List.length_map, offs_map]
  refine ⟨lb', rv', R', rfl, hR', ⟨S, Q, _, ⟨hL, rfl, rfl, h.ok, h.tn, h.fi, hus, (fun e => by cases e), h.ql, ?_, fun r hr => ?_⟩⟩, hb⟩
  · show offs _ _ ≤ n - 2
    rw [hus, hgo, ← h.us]
    exact h.fit
  · have hm : r.b ∈ R'.map (·.b) := List.mem_map.2 ⟨r, hr, rfl⟩
    rw [hR'] at hm
    obtain ⟨x, hx, e⟩ := List.mem_map.1 hm
    rw [← e]
    exact h.rl x hx

theorem open_newD (hD : Dk base w db sb n vw (List.replicate n (List.replicate 64 0)) [] false 0) (hn : 3 ≤ n) : Calls Tryd.prog 8 #[.pointer (some ⟨db, 0, none⟩)] w (fun e w' => ∃ lb, e = .returned (.tuple #[.pointer (some ⟨lb, 0, none⟩), .int .i64 0]) ∧ LiveD base lb db sb n vw (.slice none 0 0) [] 0 0 0 0 w' ∧ w.heap.size ≤ lb ∧ Below w.heap.size w w') := by
  have hk : newK (List.replicate n (List.replicate 64 0)) h0 2 = h0 := newK_zero (n := n) (by omega)
  have hn2 := hD.few.2.1
  refine (open_none hD hn (fun j hj => nmb_lt hn2 _ j (by rw [hk]; exact Nat.zero_le _) hj) (by rw [hk]; unfold pieceM; rw [if_pos (.inr rfl)])).mono ?_
  rintro e w' ⟨lb, rfl, h1, h2, h3⟩
  rw [hk] at h2
  have hlt := fun k hk => (hD.lt k hk).2
  have hbs := hD.base_le
  have hnb : ∀ k, blk (.slice none 0 0) = some k → False := fun k hk => by cases hk
  have hG : Lg base w' lb db sb n vw (.slice none 0 0) (List.replicate n (List.replicate 64 0)) [] ⟨h0, 0, false, 0, false⟩ [] :=
    ⟨hD.old h3, h2, fun e => (by have := hlt _ e; omega), ⟨.inl ⟨rfl, rfl⟩, by simp⟩, fun k hk => (hnb k hk).elim, by simp, ⟨by omega, fun k hk => (hnb k hk).elim⟩⟩
  exact ⟨lb, rfl, ⟨_, [], _, ⟨hG, rfl, rfl, h0_ok, Nat.le_refl _, rfl, rfl, (fun h => by cases h), by simp, Nat.zero_le _, by simp⟩, .inl ⟨rfl, rfl, rfl, rfl⟩, Nat.le_refl _⟩, h1, h3⟩
end
end Go.Proofs.YtcbbklbjfknnlaaDoor
