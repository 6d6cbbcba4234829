/-
  WAL: a log that goes on, and what each call makes of it.
-/
import Derived.Test.YtcbbklbjfknnlaaDoorWt
import Derived.Test.YtcbbklbjfknnlaaDoorWe
import Derived.Test.YtcbbklbjfknnlaaDoorWi
import Derived.Test.YtcbbklbjfknnlaaDoorWm
set_option linter.unusedVariables false
set_option maxRecDepth 100000
namespace Go.Proofs.YtcbbklbjfknnlaaDoor
open Go.RowKit

/-- A log that goes on: its records, how many turns at most, its first record's number, how many writes wait at most. -/
structure Liv (base : Nat) (w : World) (lb db sb n : Nat) (vw rv : Value) (S : List (List UInt8)) (Q : List Wr) (L : Ls) (R : List Rc) (t f q : Nat) : Prop where
  g : Lg base w lb db sb n vw rv S Q L R
  wt : L.waits = Q.length
  dn : L.down = false
  ok : L.h.Ok
  tn : L.h.tn ≤ t
  fi : L.h.fi = f
  us : L.used = gones R R.length
  su : L.ours = true → L.h.su ≤ L.used
  ql : Q.length ≤ q
  fit : L.used ≤ n - 2
  rl : ∀ r ∈ R, r.b.length ≤ 32768
def Live (base lb db sb n : Nat) (vw rv : Value) (R : List Rc) (t f q : Nat) (w : World) : Prop := ∃ S Q L, Liv base w lb db sb n vw rv S Q L R t f q

theorem gones_add (R : List Rc) (r : Rc) : gones (R ++ [r]) (R ++ [r]).length = gones R R.length + secs r.b.length := by
  unfold gones
  rw [List.take_length, List.take_length]
  simp
theorem gones_cut (R : List Rc) (m : Nat) : gones R R.length = gones R m + gones (R.drop m) (R.drop m).length := by
  unfold gones
  rw [List.take_length, List.take_length, ← List.sum_append, ← List.map_append, List.take_append_drop]
theorem gones_mono (R : List Rc) (m : Nat) : gones R m ≤ gones R R.length := by rw [gones_cut R m]; omega

section
variable {base : Nat} {w w' : World} {lb db sb n t f q : Nat} {vw rv : Value} {S : List (List UInt8)} {Q : List Wr} {L : Ls} {R : List Rc}

theorem Live.old (h : Live base lb db sb n vw rv R t f q w) (hb : Below w.heap.size w w') : Live base lb db sb n vw rv R t f q w' := by
  obtain ⟨S, Q, L, h⟩ := h
  exact ⟨S, Q, L, { h with g := h.g.old hb }⟩
theorem Live.kept {X : Nat → Prop} (h : Live base lb db sb n vw rv R t f q w) (hk : Keep X w w') (hx : ∀ k, GL db sb vw lb rv k → ¬ X k) (hb : ∀ r ∈ R, r.b ≠ [] → ∀ a, r.a = some a → ¬ X a.block) : Live base lb db sb n vw rv R t f q w' := by
  obtain ⟨S, Q, L, h⟩ := h
  exact ⟨S, Q, L, { h with g := h.g.kept hk hx hb }⟩
theorem Live.mono {t' q' : Nat} (h : Live base lb db sb n vw rv R t f q w) (ht : t ≤ t') (hq : q ≤ q') : Live base lb db sb n vw rv R t' f q' w := by
  obtain ⟨S, Q, L, h⟩ := h
  exact ⟨S, Q, L, { h with tn := Nat.le_trans h.tn ht, ql := Nat.le_trans h.ql hq }⟩

/-- What Append comes to. -/
def AppP (base lb db sb n : Nat) (vw rv : Value) (R : List Rc) (t f q : Nat) (l : List UInt8) (w w' : World) : Prop :=
  ∃ vw' rv' r, r.b = l ∧ Live base lb db sb n vw' rv' (R ++ [r]) (t + 1) f (q + secs l.length) w' ∧ Gfr db sb lb vw vw' rv rv' w w'

theorem nmb_lt (hn : n ≤ 65536) (h : Hd) (i : Nat) (ht : h.tn ≤ 1000000000) (hi : i ≤ 131072) : nmb n h i < 18446744073709551616 := by
  unfold nmb
  have h1 : h.tn * (n - 2) ≤ 1000000000 * 65536 := Nat.mul_le_mul ht (by omega)
  omega

theorem append_live (h : Live base lb db sb n vw rv R t f q w) {ao : Option Addr} {c : Nat} {l : List UInt8} (hx : Rd w (.slice ao l.length c) l) (hl : l.length ≤ 32768) (hn : 3 ≤ n) (ht : t < 1000000000) (hq : q ≤ 90000) (hfit : gones R R.length + secs l.length ≤ n - 2) (hR : R.length + 1 ≤ 1000000) (hxo : l ≠ [] → ∀ k, blk (.slice ao l.length c) = some k → ¬ GL db sb vw lb rv k) :
    Calls Tryd.prog 11 #[.pointer (some ⟨lb, 0, none⟩), .slice ao l.length c] w (fun e w' => e = .returned (.int .i64 0) ∧ AppP base lb db sb n vw rv R t f q l w w') := by
  obtain ⟨S, Q, L, h⟩ := h
  have hn2 := h.g.d.few.2.1
  have hfit' : L.used + secs l.length ≤ n - 2 := by rw [h.us]; exact hfit
  have hok : (hdA n L R).Ok ∧ (hdA n L R).tn ≤ t + 1 ∧ (hdA n L R).fi = f ∧ (hdA n L R).su ≤ L.used := by
    unfold hdA
    split
    · rename_i ho
      exact ⟨h.ok, Nat.le_succ_of_le h.tn, h.fi, h.su ho⟩
    · rename_i ho
      have := nextH_ok h.g hn h.ok (by have := h.tn; omega) h.fit
      refine ⟨this.1, ?_, ?_, Nat.le_of_eq this.2⟩
      · show L.h.tn + 1 ≤ t + 1
        have := h.tn; omega
      · show L.h.fi + 0 = f
        exact h.fi
  refine append_of_add h.g h.wt h.dn hl (by have := h.fit; omega) hfit' _ (fun W hb => ?_)
  refine add_any (h.g.old hb) ⟨h.wt, hl, hn, h.ok, fun _ => by have := h.tn; omega, hfit', by have := h.ql; omega, h.su, fun i hi => nmb_lt hn2 _ i (by have := hok.2.1; omega) hi, hxo, hR, h.rl⟩ (hx.old hb) _ ?_
  rintro w' ⟨vw', rv', Q', r, hr, -, hL, hQ, hG⟩
  refine ⟨vw', rv', r, hr, ⟨_, _, _, hL, rfl, h.dn, hok.1, hok.2.1, hok.2.2.1, ?_, fun _ => ?_, ?_, hfit', fun q hq9 => ?_⟩, (Gfr.of_below hb).trans hG⟩
  · show L.used + secs l.length = _
    rw [gones_add, hr, h.us]
  · show (hdA n L R).su ≤ L.used + secs l.length
    have := hok.2.2.2; omega
  · rw [hQ, List.length_append, qB_len, addQ_len]
    have : qA L Q ≤ q := by
      unfold qA
      split
      · exact h.ql
      · omega
    omega
  · rcases List.mem_append.1 hq9 with e | e
    · exact h.rl q e
    · obtain rfl := List.mem_singleton.1 e
      rw [hr]; exact hl

/-- What Sync comes to. -/
def SynP (base lb db sb n : Nat) (vw rv : Value) (R : List Rc) (t f : Nat) (w w' : World) : Prop :=
  ∃ vw', Live base lb db sb n vw' rv R t f 0 w' ∧ Gfr db sb lb vw vw' rv rv w w'
theorem sync_live (h : Live base lb db sb n vw rv R t f q w) : Calls Tryd.prog 12 #[.pointer (some ⟨lb, 0, none⟩)] w (fun e w' => e = .returned (.int .i64 0) ∧ SynP base lb db sb n vw rv R t f w w') := by
  obtain ⟨S, Q, L, h⟩ := h
  refine (sync_ok h.g h.wt h.dn).mono ?_
  rintro e w' ⟨rfl, vw', hL, hG⟩
  exact ⟨rfl, vw', ⟨S, [], _, hL, rfl, h.dn, h.ok, h.tn, h.fi, h.us, h.su, by simp, h.fit, h.rl⟩, hG⟩

/-- What Cut comes to. -/
def CuP (base lb db sb n : Nat) (vw rv : Value) (R : List Rc) (t f m : Nat) (w w' : World) : Prop :=
  ∃ vw' rv', Live base lb db sb n vw' rv' (R.drop m) (t + 1) (f + m) 0 w' ∧ Gfr db sb lb vw vw' rv rv' w w'
theorem cut_live (h : Live base lb db sb n vw rv R t f q w) (m : Nat) (hm : m ≤ R.length) (hm0 : 0 < m) (hn : 3 ≤ n) (ht : t < 1000000000) (hf : f ≤ 1000000000) (hR : R.length ≤ 1000000) : Calls Tryd.prog 20 #[.pointer (some ⟨lb, 0, none⟩), .int .u64 ((f + m : Nat) : Int)] w (fun e w' => e = .returned (.int .i64 0) ∧ CuP base lb db sb n vw rv R t f m w w') := by
  obtain ⟨S, Q, L, h⟩ := h
  have hn2 := h.g.d.few.2.1
  have hg : gones R m ≤ L.used := by rw [h.us]; exact gones_mono R m
  have hfi := h.fi
  rw [← hfi]
  have htn := h.tn
  have hfit := h.fit
  refine (cut_ok h.g h.wt h.dn m hm hm0 hR hn hg hfit h.ok (by omega) (by omega) h.rl (fun j hj => ?_)).mono ?_
  · have := gones_mono R j
    rw [← h.us] at this
    omega
  rintro e w' ⟨rfl, vw', rv', hL, hG⟩
  have hmod := Nat.mod_lt (L.h.fr + gones R m) (show 0 < n - 2 by omega)
  refine ⟨rfl, vw', rv', ⟨_, [], _, hL, rfl, h.dn, ⟨?_, ?_, ?_, ?_⟩, ?_, rfl, ?_, fun _ => Nat.le_refl _, by simp, ?_, fun q hq9 => h.rl q (List.mem_of_mem_drop hq9)⟩, hG⟩
  · show L.h.tn + 1 < _
    omega
  · show L.h.fi + m < _
    omega
  · show (L.h.fr + gones R m) % (n - 2) ≤ 65536
    omega
  · show L.used - gones R m ≤ 65536
    omega
  · show L.h.tn + 1 ≤ t + 1
    omega
  · show L.used - gones R m = _
    rw [h.us, gones_cut R m]
    omega
  · show L.used - gones R m ≤ n - 2
    omega

theorem records_live (h : Live base lb db sb n vw rv R t f q w) (hR : R.length ≤ 1000000) : Calls Tryd.prog 18 #[.pointer (some ⟨lb, 0, none⟩)] w (RecordsA R w) := by
  obtain ⟨S, Q, L, h⟩ := h
  exact records_ok h.g hR (fun r hr => by have := h.rl r hr; omega)
theorem first_live (h : Live base lb db sb n vw rv R t f q w) : Calls Tryd.prog 16 #[.pointer (some ⟨lb, 0, none⟩)] w (fun e w' => e = .returned (.int .u64 (f : Int)) ∧ w' = w) := by
  obtain ⟨S, Q, L, h⟩ := h
  have := first_any h.g.l
  rw [h.fi] at this
  exact this
theorem next_live (h : Live base lb db sb n vw rv R t f q w) (hf : f + R.length < 18446744073709551616) : Calls Tryd.prog 15 #[.pointer (some ⟨lb, 0, none⟩)] w (Draws w (.int .u64 ((f + R.length : Nat) : Int))) := by
  obtain ⟨S, Q, L, h⟩ := h
  have := next_any h.g.l R.length (by obtain ⟨ao, c, e, -⟩ := h.g.r.form; exact ⟨ao, c, e⟩) (by rw [h.fi]; exact hf)
  rw [h.fi] at this
  exact this

/-- Open of a disk on which nothing has been written. -/
theorem open_new (hD : Dk base w db sb n vw (List.replicate n (List.replicate 64 0)) [] false 0) (hn : 3 ≤ n) : Calls Tryd.prog 8 #[.pointer (some ⟨db, 0, none⟩)] w (fun e w' => ∃ lb, e = .returned (.tuple #[.pointer (some ⟨lb, 0, none⟩), .int .i64 0]) ∧ Live base lb db sb n vw (.slice none 0 0) [] 0 0 0 w' ∧ w.heap.size ≤ lb ∧ Below w.heap.size w w') := by
  have hz : hdOf (List.replicate 64 0) = h0 := by kernel_rfl
  have hk : newK (List.replicate n (List.replicate 64 0)) h0 2 = h0 := by
    have h1 : ∀ k, k < n → (List.replicate n (List.replicate 64 (0 : UInt8))).getD k [] = List.replicate 64 0 := fun k hk => by
      rw [List.getD_eq_getElem?_getD, List.getElem?_replicate_of_lt hk]; rfl
    have st : ∀ k, k < n → newK (List.replicate n (List.replicate 64 (0 : UInt8))) h0 k = h0 → newK (List.replicate n (List.replicate 64 (0 : UInt8))) h0 (k + 1) = h0 := fun k hk e => by
      rw [newK]
      split
      · rw [h1 k hk]; exact hz
      · exact e
    exact st 1 (by omega) (st 0 (by omega) rfl)
  have hn2 := hD.few.2.1
  refine (open_none hD hn (fun j hj => nmb_lt hn2 _ j (by rw [hk]; exact Nat.zero_le _) hj) (by rw [hk]; unfold pieceM; rw [if_pos (.inr rfl)])).mono ?_
  rintro e w' ⟨lb, rfl, h1, h2, h3⟩
  rw [hk] at h2
  have hlt := fun k hk => (hD.lt k hk).2
  have hbs := hD.base_le
  have hnb : ∀ k, blk (.slice none 0 0) = some k → False := fun k hk => by cases hk
  have hG : Lg base w' lb db sb n vw (.slice none 0 0) (List.replicate n (List.replicate 64 0)) [] ⟨h0, 0, false, 0, false⟩ [] :=
    ⟨hD.old h3, h2, fun e => (by have := hlt _ e; omega), ⟨.inl ⟨rfl, rfl⟩, by simp⟩, fun k hk => (hnb k hk).elim, by simp, ⟨by omega, fun k hk => (hnb k hk).elim⟩⟩
  exact ⟨lb, rfl, ⟨_, [], _, hG, rfl, rfl, h0_ok, Nat.le_refl _, rfl, rfl, (fun h => by cases h), by simp, Nat.zero_le _, by simp⟩, h1, h3⟩
end
end Go.Proofs.YtcbbklbjfknnlaaDoor
