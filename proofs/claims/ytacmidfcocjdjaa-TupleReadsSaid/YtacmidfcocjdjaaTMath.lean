/-
  PLAIN MATHEMATICS of layer 3: values, their bytes, what bytes are read as, the order of bytes. It imports nothing of the program.
-/
import GoSem.Op.String
import Derived.Lib.Bytealg
namespace Go.Proofs.Ytacmidfcocjdjaa
open Go.Lib (compareBytes)

/-! ### The order of bytes. -/
theorem cb_self : ∀ x : List UInt8, compareBytes x x = 0
  | [] => rfl
  | c :: x => by unfold compareBytes; simp [cb_self x]

theorem cb_eq : ∀ x y : List UInt8, compareBytes x y = 0 → x = y
  | [], [], _ => rfl
  | [], _ :: _, h => by simp [compareBytes] at h
  | _ :: _, [], h => by simp [compareBytes] at h
  | a :: x, b :: y, h => by
    unfold compareBytes at h
    split at h
    · cases h
    · rename_i h1
      split at h
      · cases h
      · rename_i h2
        have e : a = b := UInt8.le_antisymm (UInt8.not_lt.1 h2) (UInt8.not_lt.1 h1)
        rw [e, cb_eq x y h]

theorem cb_pre (p : List UInt8) (x y : List UInt8) : compareBytes (p ++ x) (p ++ y) = compareBytes x y := by
  induction p with
  | nil => rfl
  | cons c p ih =>
    show (if c < c then -1 else if c < c then 1 else compareBytes (p ++ x) (p ++ y)) = _
    rw [if_neg (UInt8.lt_irrefl c), if_neg (UInt8.lt_irrefl c), ih]

theorem cb_tri : ∀ x y : List UInt8, compareBytes x y = -1 ∨ compareBytes x y = 0 ∨ compareBytes x y = 1
  | [], [] => .inr (.inl rfl)
  | [], _ :: _ => .inl rfl
  | _ :: _, [] => .inr (.inr rfl)
  | a :: x, b :: y => by
    unfold compareBytes
    split
    · exact .inl rfl
    · split
      · exact .inr (.inr rfl)
      · exact cb_tri x y

theorem cb_lt {a b : UInt8} (h : a < b) (x y : List UInt8) : compareBytes (a :: x) (b :: y) = -1 := by
  unfold compareBytes; rw [if_pos h]

theorem cb_gt {a b : UInt8} (h : b < a) (x y : List UInt8) : compareBytes (a :: x) (b :: y) = 1 := by
  unfold compareBytes; rw [if_neg (UInt8.lt_asymm h), if_pos h]

theorem cb_cons (a : UInt8) (x y : List UInt8) : compareBytes (a :: x) (a :: y) = compareBytes x y := cb_pre [a] x y

theorem cb_swap : ∀ x y : List UInt8, compareBytes y x = - compareBytes x y
  | [], [] => rfl
  | [], _ :: _ => rfl
  | _ :: _, [] => rfl
  | a :: x, b :: y => by
    by_cases h : a < b
    · rw [cb_lt h, cb_gt h]; rfl
    · by_cases h2 : b < a
      · rw [cb_lt h2, cb_gt h2]
      · have e : a = b := UInt8.le_antisymm (UInt8.not_lt.1 h2) (UInt8.not_lt.1 h)
        subst e
        rw [cb_cons, cb_cons, cb_swap x y]

/-- '<' on texts. -/
theorem less_eq : ∀ x y : List UInt8, Op.bytesLess x y = decide (compareBytes x y = -1)
  | [], [] => rfl
  | _ :: _, [] => rfl
  | [], _ :: _ => rfl
  | a :: x, b :: y => by
    show (decide (a < b) || (a == b && Op.bytesLess x y)) = _
    by_cases h : a < b
    · rw [cb_lt h]; simp [h]
    · by_cases h2 : b < a
      · rw [cb_gt h2]
        have : ¬ a = b := fun e => h (by rw [e] at h2; exact absurd h2 (UInt8.lt_irrefl b))
        simp [h, this]
      · have e : a = b := UInt8.le_antisymm (UInt8.not_lt.1 h2) (UInt8.not_lt.1 h)
        subst e
        rw [cb_cons, less_eq x y]
        simp [UInt8.lt_irrefl]

theorem beq_eq (x y : List UInt8) : (x == y) = decide (compareBytes x y = 0) := by
  by_cases h : x = y
  · subst h; simp [cb_self]
  · have : ¬ compareBytes x y = 0 := fun e => h (cb_eq x y e)
    simp [h, this]

/-! ### The end of bytes. -/
/-- The least bytes that are greater than all that begin with b; none: []. -/
def endL : List UInt8 → List UInt8
  | [] => []
  | c :: r => if endL r = [] then (if c = 255 then [] else [c + 1]) else c :: endL r

theorem endL_ff (p : List UInt8) : endL (p ++ [255]) = endL p := by
  induction p with
  | nil => rfl
  | cons c p ih => simp only [List.cons_append, endL, ih]

theorem endL_not (p : List UInt8) (c : UInt8) (h : c ≠ 255) : endL (p ++ [c]) = p ++ [c + 1] := by
  induction p with
  | nil => simp [endL, h]
  | cons d p ih => simp [endL, ih]

theorem endL_none : ∀ b, endL b = [] → ∀ c ∈ b, c = 255
  | [], _, c, hc => by cases hc
  | d :: r, h, c, hc => by
    unfold endL at h
    split at h
    · rename_i h1
      split at h
      · rename_i h2
        rcases List.mem_cons.1 hc with rfl | hc
        · exact h2
        · exact endL_none r h1 c hc
      · cases h
    · cases h

theorem all_ff : ∀ (b : List UInt8), (∀ c ∈ b, c = 255) → ∀ z, (¬ compareBytes z b = -1) ↔ b <+: z
  | [], _, z => by
    constructor
    · intro _; exact List.nil_prefix
    · intro _; cases z <;> simp [compareBytes]
  | c :: r, h, z => by
    have hc := h c (by simp)
    subst hc
    cases z with
    | nil => simp [compareBytes]
    | cons d z =>
      by_cases hd : d = 255
      · subst hd
        rw [cb_cons, List.cons_prefix_cons]
        have := all_ff r (fun c hc => h c (by simp [hc])) z
        simp [this]
      · have hlt : d < 255 := by
          rw [UInt8.lt_iff_toNat_lt]
          have h1 : d.toNat ≠ 255 := fun e => hd (UInt8.toNat_inj.1 (by simpa using e))
          have := UInt8.toNat_lt d
          show d.toNat < 255
          omega
        rw [cb_lt hlt, List.cons_prefix_cons]
        have hd' : ¬ (255 : UInt8) = d := fun e => hd e.symm
        simp [hd']

theorem succ_lt {c : UInt8} (h : c ≠ 255) : c < c + 1 := by
  rw [UInt8.lt_iff_toNat_lt, UInt8.toNat_add]
  have h1 : c.toNat ≠ 255 := fun e => h (UInt8.toNat_inj.1 (by simpa using e))
  have := UInt8.toNat_lt c
  show c.toNat < (c.toNat + 1) % 256
  omega

theorem succ_le {c d : UInt8} (h : c ≠ 255) (hd : c < d) : ¬ d < c + 1 := by
  rw [UInt8.lt_iff_toNat_lt] at *
  rw [UInt8.toNat_add]
  have h1 : c.toNat ≠ 255 := fun e => h (UInt8.toNat_inj.1 (by simpa using e))
  have := UInt8.toNat_lt c
  show ¬ d.toNat < (c.toNat + 1) % 256
  omega

theorem cb_nil (z : List UInt8) : ¬ compareBytes z [] = -1 := by cases z <;> simp [compareBytes]

/-- WHAT STANDS FROM b ON AND BELOW ITS END BEGINS WITH b, AND NOTHING ELSE DOES. -/
theorem between : ∀ (b : List UInt8), endL b ≠ [] → ∀ z, (¬ compareBytes z b = -1 ∧ compareBytes z (endL b) = -1) ↔ b <+: z
  | [], h, _ => absurd rfl h
  | c :: r, h, z => by
    cases z with
    | nil => simp [compareBytes]
    | cons d z =>
      rw [List.cons_prefix_cons]
      by_cases hr : endL r = []
      · have he : endL (c :: r) = if c = 255 then [] else [c + 1] := by simp [endL, hr]
        rw [he] at h ⊢
        by_cases hc : c = 255
        · simp [hc] at h
        · rw [if_neg hc]
          have ha := all_ff r (endL_none r hr) z
          by_cases h1 : d < c
          · rw [cb_lt h1]
            have : ¬ c = d := fun e => by rw [e] at h1; exact absurd h1 (UInt8.lt_irrefl d)
            simp [this]
          · by_cases h2 : c < d
            · have h3 := succ_le hc h2
              have : ¬ c = d := fun e => by rw [e] at h2; exact absurd h2 (UInt8.lt_irrefl d)
              have h4 : ¬ compareBytes (d :: z) [c + 1] = -1 := by
                by_cases h5 : c + 1 < d
                · rw [cb_gt h5]; decide
                · have e : d = c + 1 := UInt8.le_antisymm (UInt8.not_lt.1 h5) (UInt8.not_lt.1 h3)
                  rw [e, cb_cons]; exact cb_nil z
              simp [h4, this]
            · have e : d = c := UInt8.le_antisymm (UInt8.not_lt.1 h2) (UInt8.not_lt.1 h1)
              subst e
              rw [cb_cons, cb_lt (succ_lt hc)]
              simp [ha]
      · have he : endL (c :: r) = c :: endL r := by simp [endL, hr]
        rw [he]
        by_cases h1 : d < c
        · rw [cb_lt h1]
          have : ¬ c = d := fun e => by rw [e] at h1; exact absurd h1 (UInt8.lt_irrefl d)
          simp [this]
        · by_cases h2 : c < d
          · rw [cb_gt h2, cb_gt h2]
            have : ¬ c = d := fun e => by rw [e] at h2; exact absurd h2 (UInt8.lt_irrefl d)
            simp [this]
          · have e : d = c := UInt8.le_antisymm (UInt8.not_lt.1 h2) (UInt8.not_lt.1 h1)
            subst e
            rw [cb_cons, cb_cons]
            have := between r hr z
            simp [this]

theorem endL_len : ∀ b, (endL b).length ≤ b.length
  | [] => Nat.le_refl _
  | c :: r => by
    have := endL_len r
    unfold endL
    split
    · split <;> simp
    · simpa using this

/-! ### Values. -/
structure Vl where
  k : Int
  i : Int
  s : List UInt8

/-- Right: P3's words. -/
def okV (v : Vl) : Prop := (v.k = 0 ∧ v.i = 0 ∧ v.s = []) ∨ (v.k = 1 ∧ v.s = []) ∨ (v.k = 2 ∧ v.i = 0 ∧ v.s.length ≤ 20)

instance (v : Vl) : Decidable (okV v) := by unfold okV; infer_instance

/-- Its numbers fit. -/
def inV (v : Vl) : Prop := -9223372036854775808 ≤ v.i ∧ v.i ≤ 9223372036854775807

/-- n bytes of u, the highest first. -/
def be : Nat → Nat → List UInt8
  | 0, _ => []
  | n + 1, u => UInt8.ofNat (u / 256 ^ n) :: be n u

theorem be_len (n u : Nat) : (be n u).length = n := by
  induction n with
  | zero => rfl
  | succ n ih => simp [be, ih]

/-- What bytes come to, the highest first. -/
def rdB (a : Nat) (l : List UInt8) : Nat := l.foldl (fun a c => a * 256 + c.toNat) a

theorem rdB_be (n u : Nat) : ∀ a, rdB a (be n u) = a * 256 ^ n + u % 256 ^ n := by
  induction n with
  | zero => intro a; simp [be, rdB, Nat.mod_one]
  | succ n ih =>
    intro a
    have e : rdB a (be (n + 1) u) = rdB (a * 256 + (UInt8.ofNat (u / 256 ^ n)).toNat) (be n u) := rfl
    have e2 : (UInt8.ofNat (u / 256 ^ n)).toNat = u / 256 ^ n % 256 := UInt8.toNat_ofNat'
    rw [e, ih, e2, Nat.add_mul, Nat.mul_assoc, Nat.add_assoc]
    have h1 : u % 256 ^ (n + 1) = u / 256 ^ n % 256 * 256 ^ n + u % 256 ^ n := by
      rw [Nat.pow_succ, Nat.mod_mul, Nat.mul_comm (256 ^ n)]
      omega
    rw [h1, Nat.pow_succ, Nat.mul_comm (256 ^ n) 256]

theorem be_cmp (n : Nat) : ∀ u v, u % 256 ^ n < v % 256 ^ n → ∀ x y, compareBytes (be n u ++ x) (be n v ++ y) = -1 := by
  induction n with
  | zero => intro u v h; simp [Nat.mod_one] at h
  | succ n ih =>
    intro u v h x y
    show compareBytes (UInt8.ofNat (u / 256 ^ n) :: (be n u ++ x)) (UInt8.ofNat (v / 256 ^ n) :: (be n v ++ y)) = -1
    have h1 : ∀ u, u % 256 ^ (n + 1) = u / 256 ^ n % 256 * 256 ^ n + u % 256 ^ n := fun u => by
      rw [Nat.pow_succ, Nat.mod_mul, Nat.mul_comm (256 ^ n)]
      omega
    rw [h1 u, h1 v] at h
    have hp : 0 < 256 ^ n := Nat.pow_pos (by decide)
    have hu := Nat.mod_lt u hp
    have hv := Nat.mod_lt v hp
    by_cases hq : u / 256 ^ n % 256 = v / 256 ^ n % 256
    · have e : UInt8.ofNat (u / 256 ^ n) = UInt8.ofNat (v / 256 ^ n) := by
        apply UInt8.toNat_inj.1
        rw [UInt8.toNat_ofNat', UInt8.toNat_ofNat']; exact hq
      rw [e, cb_cons]
      apply ih
      rw [hq] at h
      omega
    · apply cb_lt
      rw [UInt8.lt_iff_toNat_lt, UInt8.toNat_ofNat', UInt8.toNat_ofNat']
      show u / 256 ^ n % 256 < v / 256 ^ n % 256
      apply Nat.lt_of_not_le
      intro hle
      have hlt : v / 256 ^ n % 256 + 1 ≤ u / 256 ^ n % 256 := by omega
      have := Nat.mul_le_mul_right (256 ^ n) hlt
      rw [Nat.add_mul] at this
      omega

/-- A text's bytes. -/
def escL : List UInt8 → List UInt8
  | [] => []
  | c :: s => if c = 0 then 0 :: 255 :: escL s else c :: escL s

def textB (s : List UInt8) : List UInt8 := escL s ++ [0, 1]

theorem escL_app (s t : List UInt8) : escL (s ++ t) = escL s ++ escL t := by
  induction s with
  | nil => rfl
  | cons c s ih =>
    show escL (c :: (s ++ t)) = escL (c :: s) ++ escL t
    simp only [escL, ih]
    split <;> rfl

theorem escL_len (s : List UInt8) : (escL s).length ≤ 2 * s.length := by
  induction s with
  | nil => exact Nat.le_refl _
  | cons c s ih =>
    simp only [escL]
    split <;> simp only [List.length_cons] <;> omega

/-- A value's bytes. -/
def kindB (k : Int) : UInt8 := UInt8.ofNat (k + 1).toNat
def bodyB (v : Vl) : List UInt8 := if v.k = 1 then be 8 (v.i + 9223372036854775808).toNat else if v.k = 2 then textB v.s else []
def valB (v : Vl) : List UInt8 := kindB v.k :: bodyB v
def encL : List Vl → List UInt8
  | [] => []
  | v :: l => valB v ++ encL l

theorem encL_app (a b : List Vl) : encL (a ++ b) = encL a ++ encL b := by
  induction a with
  | nil => rfl
  | cons v a ih => simp [encL, ih]

theorem valB_len {v : Vl} (h : okV v) : (valB v).length ≤ 43 := by
  unfold valB bodyB
  rcases h with ⟨h, -, -⟩ | ⟨h, -⟩ | ⟨h, -, h2⟩
  · simp [h]
  · simp [h, be_len]
  · have := escL_len v.s
    simp only [h, List.length_cons, textB, show ¬ (2 : Int) = 1 from by decide, if_false, if_true, List.length_append, List.length_nil]
    omega

theorem encL_len {l : List Vl} (h : ∀ v ∈ l, okV v) : (encL l).length ≤ 43 * l.length := by
  induction l with
  | nil => exact Nat.le_refl _
  | cons v l ih =>
    have h1 := valB_len (h v (by simp))
    have h2 := ih fun x hx => h x (by simp [hx])
    simp only [encL, List.length_append, List.length_cons]
    omega

/-! ### What bytes are read as. -/
/-- A text: what was read, how many bytes were used, what went wrong (8: too short; 9: it may not be so). -/
def rdT (acc : List UInt8) (used : Nat) : List UInt8 → List UInt8 × Nat × Int
  | [] => ([], 0, 8)
  | [c] => if c = 0 then ([], 0, 8) else if 20 < acc.length + 1 then ([], 0, 9) else ([], 0, 8)
  | c :: d :: r =>
    if c = 0 then
      if d = 1 then (acc, used + 2, 0)
      else if d = 255 then (if 20 < acc.length + 1 then ([], 0, 9) else rdT (acc ++ [c]) (used + 2) r)
      else ([], 0, 9)
    else if 20 < acc.length + 1 then ([], 0, 9) else rdT (acc ++ [c]) (used + 1) (d :: r)

theorem rdT_c {acc : List UInt8} {used : Nat} {c : UInt8} {r : List UInt8} (h : c ≠ 0) : rdT acc used (c :: r) = if 20 < acc.length + 1 then ([], 0, 9) else rdT (acc ++ [c]) (used + 1) r := by
  cases r with
  | nil =>
    simp only [rdT, if_neg h]
  | cons d r => simp only [rdT, if_neg h]

theorem rdT_esc {acc : List UInt8} {used : Nat} {r : List UInt8} : rdT acc used (0 :: 255 :: r) = if 20 < acc.length + 1 then ([], 0, 9) else rdT (acc ++ [0]) (used + 2) r := by
  simp [rdT]

theorem rdT_end {acc : List UInt8} {used : Nat} {r : List UInt8} : rdT acc used (0 :: 1 :: r) = (acc, used + 2, 0) := by
  simp [rdT]

theorem rdT_bad {acc : List UInt8} {used : Nat} {d : UInt8} {r : List UInt8} (h1 : d ≠ 1) (h2 : d ≠ 255) : rdT acc used (0 :: d :: r) = ([], 0, 9) := by
  simp [rdT, h1, h2]

theorem rdT_text (s r : List UInt8) : ∀ acc used, acc.length + s.length ≤ 20 → rdT acc used (textB s ++ r) = (acc ++ s, used + (textB s).length, 0) := by
  induction s with
  | nil =>
    intro acc used _
    show rdT acc used (0 :: 1 :: r) = _
    rw [rdT_end]; simp [textB, escL]
  | cons c s ih =>
    intro acc used h
    simp only [List.length_cons] at h
    by_cases hc : c = 0
    · subst hc
      have e : textB (0 :: s) ++ r = 0 :: 255 :: (textB s ++ r) := by simp [textB, escL]
      rw [e, rdT_esc, if_neg (by omega), ih _ _ (by simp; omega)]
      simp [textB, escL]; omega
    · have e : textB (c :: s) ++ r = c :: (textB s ++ r) := by simp [textB, escL, hc]
      rw [e, rdT_c hc, if_neg (by omega), ih _ _ (by simp; omega)]
      simp [textB, escL, hc]; omega

/-- A text that is cut off is too short. -/
theorem rdT_cut (s : List UInt8) : ∀ acc used n, acc.length + s.length ≤ 20 → n < (textB s).length → (rdT acc used ((textB s).take n)).2.2 = 8 := by
  induction s with
  | nil =>
    intro acc used n _ hn
    have h2 : n < 2 := hn
    have e : textB [] = [0, 1] := rfl
    rw [e]
    match n, h2 with
    | 0, _ => rfl
    | 1, _ => rfl
  | cons c s ih =>
    intro acc used n h hn
    simp only [List.length_cons] at h
    by_cases hc : c = 0
    · subst hc
      have e : textB (0 :: s) = 0 :: 255 :: textB s := by simp [textB, escL]
      rw [e] at hn ⊢
      match n, hn with
      | 0, _ => rfl
      | 1, _ => rfl
      | n + 2, hn =>
        rw [List.take_succ_cons, List.take_succ_cons, rdT_esc, if_neg (by omega)]
        exact ih _ _ n (by simp; omega) (by simpa using hn)
    · have e : textB (c :: s) = c :: textB s := by simp [textB, escL, hc]
      rw [e] at hn ⊢
      match n, hn with
      | 0, _ => rfl
      | n + 1, hn =>
        rw [List.take_succ_cons, rdT_c hc, if_neg (by omega)]
        exact ih _ _ n (by simp; omega) (by simpa using hn)

/-- A value: what it is, how many bytes it has, what went wrong. -/
def rdV : List UInt8 → Vl × Nat × Int
  | [] => (⟨0, 0, []⟩, 0, 9)
  | c :: r =>
    if c = 1 then (⟨0, 0, []⟩, 1, 0)
    else if c = 2 then (if r.length < 8 then (⟨1, 0, []⟩, 9, 8) else (⟨1, (rdB 0 (r.take 8) : Int) - 9223372036854775808, []⟩, 9, 0))
    else if c = 3 then (⟨2, 0, (rdT [] 0 r).1⟩, 1 + (rdT [] 0 r).2.1, (rdT [] 0 r).2.2)
    else (⟨0, 0, []⟩, 0, 9)

theorem rdV_cons (c : UInt8) (r : List UInt8) : rdV (c :: r) = if c = 1 then (⟨0, 0, []⟩, 1, 0)
    else if c = 2 then (if r.length < 8 then (⟨1, 0, []⟩, 9, 8) else (⟨1, (rdB 0 (r.take 8) : Int) - 9223372036854775808, []⟩, 9, 0))
    else if c = 3 then (⟨2, 0, (rdT [] 0 r).1⟩, 1 + (rdT [] 0 r).2.1, (rdT [] 0 r).2.2)
    else (⟨0, 0, []⟩, 0, 9) := rfl

theorem rdV_val {v : Vl} (h : okV v) (hi : inV v) (r : List UInt8) : rdV (valB v ++ r) = (v, (valB v).length, 0) := by
  obtain ⟨k, i, s⟩ := v
  unfold inV at hi
  rcases h with ⟨h1, h2, h3⟩ | ⟨h1, h2⟩ | ⟨h1, h2, h3⟩
  · simp only at h1 h2 h3; subst h1; subst h2; subst h3
    rfl
  · simp only at h1 h2 hi; subst h1; subst h2
    have e : valB ⟨1, i, []⟩ ++ r = 2 :: (be 8 (i + 9223372036854775808).toNat ++ r) := rfl
    rw [e]
    rw [rdV_cons, if_neg (by decide), if_pos rfl, if_neg (by simp [be_len])]
    have e2 : (be 8 (i + 9223372036854775808).toNat ++ r).take 8 = be 8 (i + 9223372036854775808).toNat := by
      rw [List.take_left' (be_len _ _)]
    rw [e2, rdB_be]
    have e3 : ((0 * 256 ^ 8 + (i + 9223372036854775808).toNat % 256 ^ 8 : Nat) : Int) - 9223372036854775808 = i := by
      rw [Nat.mod_eq_of_lt (by omega)]; omega
    rw [e3]
    simp [valB, bodyB, be_len]
  · simp only at h1 h2 h3; subst h1; subst h2
    have e : valB ⟨2, 0, s⟩ ++ r = 3 :: (textB s ++ r) := rfl
    rw [e]
    rw [rdV_cons, if_neg (by decide), if_neg (by decide), if_pos rfl, rdT_text s r [] 0 (by simpa using h3)]
    simp [valB, bodyB]; omega

/-- A value that is cut off is too short. -/
theorem rdV_cut {v : Vl} (h : okV v) (n : Nat) (h0 : 0 < n) (hn : n < (valB v).length) : (rdV ((valB v).take n)).2.2 = 8 := by
  obtain ⟨k, i, s⟩ := v
  obtain ⟨n, rfl⟩ : ∃ m, n = m + 1 := ⟨n - 1, by omega⟩
  rcases h with ⟨h1, h2, h3⟩ | ⟨h1, h2⟩ | ⟨h1, h2, h3⟩
  · simp only at h1 h2 h3; subst h1
    have : (valB ⟨0, i, s⟩).length = 1 := rfl
    omega
  · simp only at h1 h2; subst h1; subst h2
    have e : valB ⟨1, i, []⟩ = 2 :: be 8 (i + 9223372036854775808).toNat := rfl
    rw [e] at hn ⊢
    rw [List.take_succ_cons]
    simp only [List.length_cons, be_len] at hn
    rw [rdV_cons, if_neg (by decide), if_pos rfl, if_pos (by simp [be_len]; omega)]
  · simp only at h1 h2 h3; subst h1; subst h2
    have e : valB ⟨2, 0, s⟩ = 3 :: textB s := rfl
    rw [e] at hn ⊢
    rw [List.take_succ_cons]
    rw [rdV_cons, if_neg (by decide), if_neg (by decide), if_pos rfl]
    exact rdT_cut s [] 0 n (by simpa using h3) (by simpa using hn)

/-- Bytes: the values behind those that were read, or what went wrong. -/
def decA (acc : List Vl) (b : List UInt8) : List Vl × Int :=
  if h : b = [] then (acc, 0)
  else if (rdV b).2.2 ≠ 0 then ([], (rdV b).2.2)
  else decA (acc ++ [(rdV b).1]) (b.drop (1 + ((rdV b).2.1 - 1)))
termination_by b.length
decreasing_by
  have := List.length_pos_iff.2 h
  simp only [List.length_drop]
  omega

theorem decA_nil (acc : List Vl) : decA acc [] = (acc, 0) := by rw [decA]; rfl

theorem decA_err {acc : List Vl} {b : List UInt8} (h : b ≠ []) {e : Int} (he : (rdV b).2.2 = e) (h0 : e ≠ 0) : decA acc b = ([], e) := by
  rw [decA, dif_neg h, if_pos (by rw [he]; exact h0), he]

theorem decA_step {acc : List Vl} {b : List UInt8} (h : b ≠ []) {v : Vl} {n : Nat} (he : rdV b = (v, n, 0)) (hn : 1 ≤ n) : decA acc b = decA (acc ++ [v]) (b.drop n) := by
  rw [decA, dif_neg h, if_neg (by rw [he]; simp), he]
  show decA (acc ++ [v]) (b.drop (1 + (n - 1))) = _
  rw [Nat.add_sub_cancel' hn]

/-- Of what is read the beginning was read ahead. -/
theorem decA_pre (n : Nat) : ∀ (b : List UInt8) (acc l : List Vl), b.length ≤ n → decA acc b = (l, 0) → acc <+: l := by
  induction n with
  | zero =>
    intro b acc l hb h
    obtain rfl : b = [] := List.eq_nil_of_length_eq_zero (by omega)
    rw [decA_nil] at h
    simp only [Prod.mk.injEq, and_true] at h
    rw [h]; exact List.prefix_refl _
  | succ n ih =>
    intro b acc l hb h
    by_cases hb0 : b = []
    · subst hb0
      rw [decA_nil] at h
      simp only [Prod.mk.injEq, and_true] at h
      rw [h]; exact List.prefix_refl _
    · by_cases he : (rdV b).2.2 = 0
      · rw [decA, dif_neg hb0, if_neg (by simp [he])] at h
        have hp := List.length_pos_iff.2 hb0
        have := ih _ _ _ (by simp only [List.length_drop]; omega) h
        exact (List.prefix_append _ _).trans this
      · rw [decA_err hb0 rfl he] at h
        simp only [Prod.mk.injEq] at h
        exact absurd h.2 he

/-- WHAT IS WRITTEN IS READ. -/
theorem decA_enc (l : List Vl) (h : ∀ v ∈ l, okV v ∧ inV v) (r : List UInt8) : ∀ acc, decA acc (encL l ++ r) = decA (acc ++ l) r := by
  induction l with
  | nil => intro acc; simp [encL]
  | cons v l ih =>
    intro acc
    obtain ⟨h1, h2⟩ := h v (by simp)
    have e : encL (v :: l) ++ r = valB v ++ (encL l ++ r) := by simp [encL]
    have hne : valB v ++ (encL l ++ r) ≠ [] := by simp [valB]
    rw [e, decA_step hne (rdV_val h1 h2 _) (by simp [valB]), List.drop_left, ih (fun x hx => h x (by simp [hx]))]
    simp

theorem decA_all (l : List Vl) (h : ∀ v ∈ l, okV v ∧ inV v) : decA [] (encL l) = (l, 0) := by
  have := decA_enc l h [] []
  rw [List.append_nil] at this
  rw [this, decA_nil]; rfl

/-- Cut off within a value. -/
theorem decA_cut (a : List Vl) (v : Vl) (ha : ∀ v ∈ a, okV v ∧ inV v) (hv : okV v) (n : Nat) (h0 : 0 < n) (hn : n < (valB v).length) : decA [] (encL a ++ (valB v).take n) = ([], 8) := by
  rw [decA_enc a ha]
  refine decA_err ?_ (rdV_cut hv n h0 hn) (by decide)
  intro e
  have := congrArg List.length e
  rw [List.length_take] at this
  simp only [List.length_nil] at this
  omega

/-- Where bytes of a list are cut: behind a value, or within one. -/
theorem cut_where (l : List Vl) : ∀ k, k ≤ (encL l).length → (∃ i, i ≤ l.length ∧ (encL (l.take i)).length = k ∧ (encL l).take k = encL (l.take i)) ∨
    (∃ i v n, l[i]? = some v ∧ 0 < n ∧ n < (valB v).length ∧ (encL l).take k = encL (l.take i) ++ (valB v).take n ∧ k = (encL (l.take i)).length + n) := by
  induction l with
  | nil => intro k hk; exact .inl ⟨0, by simp, by simp [encL] at hk; simp [encL, hk], by simp [encL]⟩
  | cons v l ih =>
    intro k hk
    have e : encL (v :: l) = valB v ++ encL l := rfl
    rw [e] at hk ⊢
    by_cases h0 : k = 0
    · subst h0; exact .inl ⟨0, by simp, rfl, rfl⟩
    · by_cases h1 : k < (valB v).length
      · refine .inr ⟨0, v, k, rfl, by omega, h1, ?_, ?_⟩
        · rw [List.take_append_of_le_length (by omega)]; rfl
        · simp [encL]
      · have hk' : k - (valB v).length ≤ (encL l).length := by rw [List.length_append] at hk; omega
        have et : (valB v ++ encL l).take k = valB v ++ (encL l).take (k - (valB v).length) := by
          rw [List.take_append, List.take_of_length_le (by omega)]
        rw [et]
        rcases ih _ hk' with ⟨i, h2, h3, h4⟩ | ⟨i, u, n, h2, h3, h4, h5, h6⟩
        · refine .inl ⟨i + 1, by simp; omega, ?_, ?_⟩
          · show (valB v ++ encL (l.take i)).length = k
            rw [List.length_append]; omega
          · rw [h4]; rfl
        · refine .inr ⟨i + 1, u, n, h2, h3, h4, ?_, ?_⟩
          · rw [h5]
            show _ = (valB v ++ encL (l.take i)) ++ _
            rw [List.append_assoc]
          · show k = (valB v ++ encL (l.take i)).length + n
            rw [List.length_append]; omega

/-! ### The order of values. -/
def cmpI (a b : Int) : Int := if a < b then -1 else if b < a then 1 else 0

def cmpV (x y : Vl) : Int := if cmpI x.k y.k ≠ 0 then cmpI x.k y.k else if cmpI x.i y.i ≠ 0 then cmpI x.i y.i else compareBytes x.s y.s

def cmpVs : List Vl → List Vl → Int
  | [], [] => 0
  | [], _ :: _ => -1
  | _ :: _, [] => 1
  | x :: a, y :: b => if cmpV x y ≠ 0 then cmpV x y else cmpVs a b

theorem cmpI_eq {a b : Int} (h : cmpI a b = 0) : a = b := by
  unfold cmpI at h
  split at h
  · cases h
  · split at h
    · cases h
    · omega

theorem cmpI_self (a : Int) : cmpI a a = 0 := by unfold cmpI; simp

theorem cmpV_eq {x y : Vl} (h : cmpV x y = 0) : x = y := by
  unfold cmpV at h
  split at h
  · rename_i h1; exact absurd h h1
  · rename_i h1
    split at h
    · rename_i h2; exact absurd h h2
    · rename_i h2
      obtain ⟨k, i, s⟩ := x
      obtain ⟨k', i', s'⟩ := y
      simp only [Classical.not_not] at h1 h2
      have e1 : k = k' := cmpI_eq h1
      have e2 : i = i' := cmpI_eq h2
      have e3 : s = s' := cb_eq _ _ h
      rw [e1, e2, e3]

theorem cmpV_self (x : Vl) : cmpV x x = 0 := by
  unfold cmpV; simp [cmpI_self, cb_self]

theorem esc_cmp (s t : List UInt8) : ∀ x y, compareBytes s t ≠ 0 → compareBytes (textB s ++ x) (textB t ++ y) = compareBytes s t := by
  have z1 : (0 : UInt8) < 255 := by decide
  have z2 : (1 : UInt8) < 255 := by decide
  have pos : ∀ c : UInt8, c ≠ 0 → 0 < c := fun c hc => by
    rw [UInt8.lt_iff_toNat_lt]
    have : c.toNat ≠ 0 := fun e => hc (UInt8.toNat_inj.1 (by simpa using e))
    show 0 < c.toNat
    omega
  induction s generalizing t with
  | nil =>
    intro x y h
    cases t with
    | nil => exact absurd rfl h
    | cons d t =>
      show compareBytes (0 :: 1 :: x) _ = -1
      by_cases hd : d = 0
      · subst hd
        have e : textB (0 :: t) ++ y = 0 :: 255 :: (textB t ++ y) := by simp [textB, escL]
        rw [e, cb_cons, cb_lt z2]
      · have e : textB (d :: t) ++ y = d :: (textB t ++ y) := by simp [textB, escL, hd]
        rw [e, cb_lt (pos d hd)]
  | cons c s ih =>
    intro x y h
    cases t with
    | nil =>
      show compareBytes _ (0 :: 1 :: y) = 1
      by_cases hd : c = 0
      · subst hd
        have e : textB (0 :: s) ++ x = 0 :: 255 :: (textB s ++ x) := by simp [textB, escL]
        rw [e, cb_cons, cb_gt z2]
      · have e : textB (c :: s) ++ x = c :: (textB s ++ x) := by simp [textB, escL, hd]
        rw [e, cb_gt (pos c hd)]
    | cons d t =>
      have e : ∀ (c : UInt8) s (x : List UInt8), textB (c :: s) ++ x = c :: ((if c = 0 then [255] else []) ++ (textB s ++ x)) := fun c s x => by
        by_cases hc : c = 0
        · subst hc; simp [textB, escL]
        · simp [textB, escL, hc]
      rw [e, e]
      by_cases h1 : c < d
      · rw [cb_lt h1, cb_lt h1]
      · by_cases h2 : d < c
        · rw [cb_gt h2, cb_gt h2]
        · have e : c = d := UInt8.le_antisymm (UInt8.not_lt.1 h2) (UInt8.not_lt.1 h1)
          subst e
          rw [cb_cons] at h ⊢
          rw [cb_cons, cb_pre]
          exact ih t x y h

theorem cmpI_neg {a b : Int} (h : cmpI a b ≠ 0) : (a < b ∧ cmpI a b = -1) ∨ (b < a ∧ cmpI a b = 1) := by
  unfold cmpI at h ⊢
  by_cases h1 : a < b
  · exact .inl ⟨h1, by simp [h1]⟩
  · by_cases h2 : b < a
    · exact .inr ⟨h2, by simp [h1, h2]⟩
    · simp [h1, h2] at h

/-- THE BYTES OF TWO RIGHT VALUES THAT ARE NOT THE SAME ARE IN THEIR ORDER, whatever stands behind. -/
theorem val_cmp {v u : Vl} (hv : okV v) (hu : okV u) (iv : inV v) (iu : inV u) (h : cmpV v u ≠ 0) (x y : List UInt8) : compareBytes (valB v ++ x) (valB u ++ y) = cmpV v u := by
  have kin : ∀ w : Vl, okV w → (w.k = 0 ∨ w.k = 1 ∨ w.k = 2) := fun w hw => by rcases hw with ⟨h, -⟩ | ⟨h, -⟩ | ⟨h, -⟩ <;> simp [h]
  have kv := kin v hv
  have ku := kin u hu
  have kb : ∀ a b : Int, (a = 0 ∨ a = 1 ∨ a = 2) → (b = 0 ∨ b = 1 ∨ b = 2) → a < b → kindB a < kindB b := by
    intro a b ha hb hab
    rcases ha with rfl | rfl | rfl <;> rcases hb with rfl | rfl | rfl <;> first | (exfalso; omega) | decide
  unfold cmpV at h ⊢
  unfold valB
  by_cases h1 : cmpI v.k u.k ≠ 0
  · rw [if_pos h1]
    rcases cmpI_neg h1 with ⟨h2, h3⟩ | ⟨h2, h3⟩
    · rw [h3]; exact cb_lt (kb _ _ kv ku h2) _ _
    · rw [h3]; exact cb_gt (kb _ _ ku kv h2) _ _
  · rw [if_neg h1] at h ⊢
    have hk : v.k = u.k := cmpI_eq (Classical.not_not.1 h1)
    have ek : kindB v.k = kindB u.k := by rw [hk]
    rw [List.cons_append, List.cons_append, ek, cb_cons]
    rcases hu with ⟨a1, a2, a3⟩ | ⟨a1, a2⟩ | ⟨a1, a2, a3⟩
    · rcases hv with ⟨b1, b2, b3⟩ | ⟨b1, b2⟩ | ⟨b1, b2, b3⟩
      · exfalso; apply h; simp [a2, a3, b2, b3, cmpI_self, cb_self]
      · omega
      · omega
    · rcases hv with ⟨b1, b2, b3⟩ | ⟨b1, b2⟩ | ⟨b1, b2, b3⟩
      · omega
      · rw [a2, b2] at h ⊢
        rw [cb_self] at h ⊢
        have h4 : cmpI v.i u.i ≠ 0 := by
          intro e; rw [e] at h; simp at h
        rw [if_pos h4]
        unfold inV at iv iu
        have e1 : bodyB v = be 8 (v.i + 9223372036854775808).toNat := by simp [bodyB, b1]
        have e2 : bodyB u = be 8 (u.i + 9223372036854775808).toNat := by simp [bodyB, a1]
        rw [e1, e2]
        rcases cmpI_neg h4 with ⟨h2, h3⟩ | ⟨h2, h3⟩
        · rw [h3]
          apply be_cmp
          rw [Nat.mod_eq_of_lt (by omega), Nat.mod_eq_of_lt (by omega)]; omega
        · rw [h3, cb_swap, be_cmp]
          · rfl
          · rw [Nat.mod_eq_of_lt (by omega), Nat.mod_eq_of_lt (by omega)]; omega
      · omega
    · rcases hv with ⟨b1, b2, b3⟩ | ⟨b1, b2⟩ | ⟨b1, b2, b3⟩
      · omega
      · omega
      · rw [a2, b2] at h ⊢
        rw [cmpI_self] at h ⊢
        simp only [ne_eq, not_true_eq_false, if_false] at h ⊢
        have e1 : bodyB v = textB v.s := by simp [bodyB, b1]
        have e2 : bodyB u = textB u.s := by simp [bodyB, a1]
        rw [e1, e2]
        exact esc_cmp _ _ _ _ h

/-- THE BYTES OF LISTS ARE IN THE LISTS' ORDER. -/
theorem enc_cmp : ∀ (a b : List Vl), (∀ v ∈ a, okV v ∧ inV v) → (∀ v ∈ b, okV v ∧ inV v) → compareBytes (encL a) (encL b) = cmpVs a b
  | [], [], _, _ => rfl
  | [], y :: b, _, _ => by simp [encL, valB, compareBytes, cmpVs]
  | x :: a, [], _, _ => by simp [encL, valB, compareBytes, cmpVs]
  | x :: a, y :: b, ha, hb => by
    obtain ⟨a1, a2⟩ := ha x (by simp)
    obtain ⟨b1, b2⟩ := hb y (by simp)
    unfold cmpVs encL
    by_cases h : cmpV x y ≠ 0
    · rw [if_pos h, val_cmp a1 b1 a2 b2 h]
    · rw [if_neg h]
      have e := cmpV_eq (Classical.not_not.1 h)
      subst e
      rw [cb_pre]
      exact enc_cmp a b (fun v hv => ha v (by simp [hv])) (fun v hv => hb v (by simp [hv]))

theorem cmpVs_eq {a b : List Vl} (ha : ∀ v ∈ a, okV v ∧ inV v) (hb : ∀ v ∈ b, okV v ∧ inV v) (h : cmpVs a b = 0) : a = b := by
  rw [← enc_cmp a b ha hb] at h
  have e := cb_eq _ _ h
  have h1 := decA_all a ha
  rw [e, decA_all b hb] at h1
  simp only [Prod.mk.injEq, and_true] at h1
  exact h1.symm

theorem cmpVs_self : ∀ a, cmpVs a a = 0
  | [] => rfl
  | x :: a => by simp [cmpVs, cmpV_self, cmpVs_self a]

/-- One list's bytes begin with another one's just if it does. -/
theorem enc_pre {a b : List Vl} (ha : ∀ v ∈ a, okV v ∧ inV v) (hb : ∀ v ∈ b, okV v ∧ inV v) : encL a <+: encL b ↔ a <+: b := by
  constructor
  · rintro ⟨r, hr⟩
    have h1 := decA_all b hb
    rw [← hr, decA_enc a ha] at h1
    exact decA_pre _ _ _ _ (Nat.le_refl _) h1
  · rintro ⟨r, rfl⟩
    rw [encL_app]; exact List.prefix_append _ _

theorem endL_enc {a : List Vl} (ha : ∀ v ∈ a, okV v) (h : a ≠ []) : endL (encL a) ≠ [] := by
  intro he
  cases a with
  | nil => exact h rfl
  | cons v a =>
    have h1 := endL_none _ he (kindB v.k) (by simp [encL, valB])
    rcases ha v (by simp) with ⟨h, -⟩ | ⟨h, -⟩ | ⟨h, -⟩ <;> (rw [h] at h1; exact absurd h1 (by decide))
end Go.Proofs.Ytacmidfcocjdjaa
