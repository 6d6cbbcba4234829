import Derived.Deep.Slices
import Derived.Deep.AppendLies
import Derived.Test.YtpdmocdfnakggaaDoorRows
import Derived.WalkKit
import Derived.WalkSpells
import Derived.WalkLawsBesides
import Derived.Laws.AppendOwnNone
import GoSem.Op.String
import Derived.Lib.Bytealg
import Derived.BigQuiet
import Derived.Deep.QuietTactic
import Derived.Deep.RegionWith
import Derived.ProofKit
import Derived.OpenShut
import Derived.ShutString
import Derived.ChangeOld
import Derived.Below
import Derived.SizedLaws
import Derived.Deep.Strs
import Derived.Test.YtpdmocdfnakggaaDoorProg
import Derived.LaidEql
import Derived.Stop.Asserts
import Derived.RowKitTokens
import Derived.Deep.CutRange
import Derived.Deep.RegionHeld3
import Derived.Deep.RegionHeld
import Derived.Lib.Bytes
import Derived.Deep.OwnRows
import Derived.OwnWalk
import Derived.Lib.AppendZeros
import Derived.Deep.RegionLaw
import Derived.Laws.OwnMore
import Derived.Test.YtpdmocdfnakggaaDoorZB1
set_option linter.unusedVariables false
set_option linter.unusedSimpArgs false
namespace Go.Proofs.YtpdmocdfnakggaaDoor
open Go.RowKit

/-- 'x[n:]'. -/
theorem Rws.cut {P : Program} {size : Nat} {w : World} {x : Value} {L : List (List Value)} (h : Rws size w x L) (hsz : 0 < size) (t e : TypeId) (ht : P.underlying t = some (.slice e)) (hinfo : (P.info? e).map (fun i => i.size) = some size) (n : Nat) (hn : n ≤ L.length) :
    ∃ (ao : Option Addr) (c : Nat), (∀ W, (Instr.slice t x (some (.int .i64 (n : Int))) none none).run P W = .ok (.slice ao (L.length - n) c) W) ∧ Rws size w (.slice ao (L.length - n) c) (L.drop n) ∧ (∀ k, blk (.slice ao (L.length - n) c) = some k → blk x = some k) := by
  obtain ⟨i0, hi, hz1⟩ : ∃ i, P.info? e = some i ∧ i.size = size := by
    cases hq : P.info? e with
    | none => rw [hq] at hinfo; cases hinfo
    | some i => rw [hq] at hinfo; exact ⟨i, rfl, by simpa using hinfo⟩
  have h0 := h
  obtain ⟨ao, c, rfl, h1, h2, h3, h5, h4⟩ := h
  have ht' : P.underlying t = some (.slice (P.elem t)) := by simp [Program.elem, ht]
  have he : P.elem t = e := by simp [Program.elem, ht]
  have hs : ∀ W, (sizeOf e).run P W = .ok size W := fun W => by simp [sizeOf, typeInfo, hi, hz1]
  have hlen : (L.drop n).length = L.length - n := List.length_drop
  refine ⟨if c = n then ao else ao.map (·.add (n * size)), c - n, fun W => ?_, ?_, ?_⟩
  · rw [run_slice_l W t _ _ _ ht' .i64 _ (by omega) (by omega), he, hs]
    simp [Result.andThen, sliced]
  · refine ⟨_, _, by rw [hlen], by rw [hlen]; omega, by omega, ?_, h5.sub fun r hr => List.mem_of_mem_drop hr, ?_⟩
    · intro hne
      split at hne
      · omega
      · cases ao with
        | none => have := h3 rfl; omega
        | some a => simp at hne
    · intro a ha j u hu
      have hjl : j < (L.drop n).flatten.length := (List.getElem?_eq_some_iff.1 hu).1
      have hwd : Wide size (L.drop n) := h5.sub fun r hr => List.mem_of_mem_drop hr
      have hpos : 0 < (L.drop n).length := by
        rcases Nat.eq_zero_or_pos (L.drop n).length with h | h
        · rw [List.eq_nil_of_length_eq_zero h] at hjl; simp at hjl
        · exact h
      rw [if_neg (by omega)] at ha
      cases ao with
      | none => simp at ha
      | some a0 =>
        simp at ha
        subst ha
        have e : L.flatten = (L.take n).flatten ++ (L.drop n).flatten := by rw [← List.flatten_append, List.take_append_drop]
        have hwt : Wide size (L.take n) := h5.sub fun r hr => List.mem_of_mem_take hr
        have hlt : (L.take n).flatten.length = n * size := by rw [hwt.len, List.length_take]; congr 1; omega
        have h7 : L.flatten[n * size + j]? = some u := by
          rw [e, List.getElem?_append_right (by omega), hlt]
          rw [show n * size + j - n * size = j by omega]
          exact hu
        have h6 := h4 a0 rfl _ _ h7
        rw [Deep.add_add]
        exact h6
  · intro k hk
    split at hk
    · cases ao with
      | none => simp [blk] at hk
      | some a => simpa [blk] using hk
    · cases ao with
      | none => simp [blk] at hk
      | some a => simpa [blk, add_block] using hk

end Go.Proofs.YtpdmocdfnakggaaDoor

namespace Go.Proofs.YtpdmocdfnakggaaDoor
open Go.Lib (compareBytes)

/-- What bytes come to, the highest first. -/
def rdB (a : Nat) (l : List UInt8) : Nat := l.foldl (fun a c => a * 256 + c.toNat) a

theorem rdB_be (n u : Nat) : ∀ a, rdB a (be n u) = a * 256 ^ n + u % 256 ^ n := by
  induction n with
  | zero => intro a; simp [be, rdB, Nat.mod_one]
  | succ n ih =>
    intro a
    have e : rdB a (be (n + 1) u) = rdB (a * 256 + (UInt8.ofNat (u / 256 ^ n)).toNat) (be n u) := rfl
    have e2 : (UInt8.ofNat (u / 256 ^ n)).toNat = u / 256 ^ n % 256 := UInt8.toNat_ofNat'
    rw [e, ih, e2, Nat.add_mul, Nat.mul_assoc, Nat.add_assoc]
    have h1 : u % 256 ^ (n + 1) = u / 256 ^ n % 256 * 256 ^ n + u % 256 ^ n := by
      rw [Nat.pow_succ, Nat.mod_mul, Nat.mul_comm (256 ^ n)]
      omega
    rw [h1, Nat.pow_succ, Nat.mul_comm (256 ^ n) 256]

/-- A text: what was read, how many bytes were used, what went wrong (8: too short; 9: it may not be so). -/
def rdT (acc : List UInt8) (used : Nat) : List UInt8 → List UInt8 × Nat × Int
  | [] => ([], 0, 8)
  | [c] => if c = 0 then ([], 0, 8) else if 20 < acc.length + 1 then ([], 0, 9) else ([], 0, 8)
  | c :: d :: r =>
    if c = 0 then
      if d = 1 then (acc, used + 2, 0)
      else if d = 255 then (if 20 < acc.length + 1 then ([], 0, 9) else rdT (acc ++ [c]) (used + 2) r)
      else ([], 0, 9)
    else if 20 < acc.length + 1 then ([], 0, 9) else rdT (acc ++ [c]) (used + 1) (d :: r)

theorem rdT_c {acc : List UInt8} {used : Nat} {c : UInt8} {r : List UInt8} (h : c ≠ 0) : rdT acc used (c :: r) = if 20 < acc.length + 1 then ([], 0, 9) else rdT (acc ++ [c]) (used + 1) r := by
  cases r with
  | nil =>
    simp only [rdT, if_neg h]
  | cons d r => simp only [rdT, if_neg h]

theorem rdT_esc {acc : List UInt8} {used : Nat} {r : List UInt8} : rdT acc used (0 :: 255 :: r) = if 20 < acc.length + 1 then ([], 0, 9) else rdT (acc ++ [0]) (used + 2) r := by
  simp [rdT]

theorem rdT_end {acc : List UInt8} {used : Nat} {r : List UInt8} : rdT acc used (0 :: 1 :: r) = (acc, used + 2, 0) := by
  simp [rdT]

theorem rdT_bad {acc : List UInt8} {used : Nat} {d : UInt8} {r : List UInt8} (h1 : d ≠ 1) (h2 : d ≠ 255) : rdT acc used (0 :: d :: r) = ([], 0, 9) := by
  simp [rdT, h1, h2]

theorem rdT_text (s r : List UInt8) : ∀ acc used, acc.length + s.length ≤ 20 → rdT acc used (textB s ++ r) = (acc ++ s, used + (textB s).length, 0) := by
  induction s with
  | nil =>
    intro acc used _
    show rdT acc used (0 :: 1 :: r) = _
    rw [rdT_end]; simp [textB, escL]
  | cons c s ih =>
    intro acc used h
    simp only [List.length_cons] at h
    by_cases hc : c = 0
    · subst hc
      have e : textB (0 :: s) ++ r = 0 :: 255 :: (textB s ++ r) := by simp [textB, escL]
      rw [e, rdT_esc, if_neg (by omega), ih _ _ (by simp; omega)]
      simp [textB, escL]; omega
    · have e : textB (c :: s) ++ r = c :: (textB s ++ r) := by simp [textB, escL, hc]
      rw [e, rdT_c hc, if_neg (by omega), ih _ _ (by simp; omega)]
      simp [textB, escL, hc]; omega

/-- A value: what it is, how many bytes it has, what went wrong. -/
def rdV : List UInt8 → Vl × Nat × Int
  | [] => (⟨0, 0, []⟩, 0, 9)
  | c :: r =>
    if c = 1 then (⟨0, 0, []⟩, 1, 0)
    else if c = 2 then (if r.length < 8 then (⟨1, 0, []⟩, 9, 8) else (⟨1, (rdB 0 (r.take 8) : Int) - 9223372036854775808, []⟩, 9, 0))
    else if c = 3 then (⟨2, 0, (rdT [] 0 r).1⟩, 1 + (rdT [] 0 r).2.1, (rdT [] 0 r).2.2)
    else (⟨0, 0, []⟩, 0, 9)

theorem rdV_cons (c : UInt8) (r : List UInt8) : rdV (c :: r) = if c = 1 then (⟨0, 0, []⟩, 1, 0)
    else if c = 2 then (if r.length < 8 then (⟨1, 0, []⟩, 9, 8) else (⟨1, (rdB 0 (r.take 8) : Int) - 9223372036854775808, []⟩, 9, 0))
    else if c = 3 then (⟨2, 0, (rdT [] 0 r).1⟩, 1 + (rdT [] 0 r).2.1, (rdT [] 0 r).2.2)
    else (⟨0, 0, []⟩, 0, 9) := rfl

theorem rdV_val {v : Vl} (h : okV v) (hi : inV v) (r : List UInt8) : rdV (valB v ++ r) = (v, (valB v).length, 0) := by
  obtain ⟨k, i, s⟩ := v
  unfold inV at hi
  rcases h with ⟨h1, h2, h3⟩ | ⟨h1, h2⟩ | ⟨h1, h2, h3⟩
  · simp only at h1 h2 h3; subst h1; subst h2; subst h3
    rfl
  · simp only at h1 h2 hi; subst h1; subst h2
    have e : valB ⟨1, i, []⟩ ++ r = 2 :: (be 8 (i + 9223372036854775808).toNat ++ r) := rfl
    rw [e]
    rw [rdV_cons, if_neg (by decide), if_pos rfl, if_neg (by simp [be_len])]
    have e2 : (be 8 (i + 9223372036854775808).toNat ++ r).take 8 = be 8 (i + 9223372036854775808).toNat := by
      rw [List.take_left' (be_len _ _)]
    rw [e2, rdB_be]
    have e3 : ((0 * 256 ^ 8 + (i + 9223372036854775808).toNat % 256 ^ 8 : Nat) : Int) - 9223372036854775808 = i := by
      rw [Nat.mod_eq_of_lt (by omega)]; omega
    rw [e3]
    simp [valB, bodyB, be_len]
  · simp only at h1 h2 h3; subst h1; subst h2
    have e : valB ⟨2, 0, s⟩ ++ r = 3 :: (textB s ++ r) := rfl
    rw [e]
    rw [rdV_cons, if_neg (by decide), if_neg (by decide), if_pos rfl, rdT_text s r [] 0 (by simpa using h3)]
    simp [valB, bodyB]; omega

/-- Bytes: the values behind those that were read, or what went wrong. -/
def decA (acc : List Vl) (b : List UInt8) : List Vl × Int :=
  if h : b = [] then (acc, 0)
  else if (rdV b).2.2 ≠ 0 then ([], (rdV b).2.2)
  else decA (acc ++ [(rdV b).1]) (b.drop (1 + ((rdV b).2.1 - 1)))
termination_by b.length
decreasing_by
  have := List.length_pos_iff.2 h
  simp only [List.length_drop]
  omega

theorem decA_nil (acc : List Vl) : decA acc [] = (acc, 0) := by rw [decA]; rfl

theorem decA_err {acc : List Vl} {b : List UInt8} (h : b ≠ []) {e : Int} (he : (rdV b).2.2 = e) (h0 : e ≠ 0) : decA acc b = ([], e) := by
  rw [decA, dif_neg h, if_pos (by rw [he]; exact h0), he]

theorem decA_step {acc : List Vl} {b : List UInt8} (h : b ≠ []) {v : Vl} {n : Nat} (he : rdV b = (v, n, 0)) (hn : 1 ≤ n) : decA acc b = decA (acc ++ [v]) (b.drop n) := by
  rw [decA, dif_neg h, if_neg (by rw [he]; simp), he]
  show decA (acc ++ [v]) (b.drop (1 + (n - 1))) = _
  rw [Nat.add_sub_cancel' hn]

/-- WHAT IS WRITTEN IS READ. -/
theorem decA_enc (l : List Vl) (h : ∀ v ∈ l, okV v ∧ inV v) (r : List UInt8) : ∀ acc, decA acc (encL l ++ r) = decA (acc ++ l) r := by
  induction l with
  | nil => intro acc; simp [encL]
  | cons v l ih =>
    intro acc
    obtain ⟨h1, h2⟩ := h v (by simp)
    have e : encL (v :: l) ++ r = valB v ++ (encL l ++ r) := by simp [encL]
    have hne : valB v ++ (encL l ++ r) ≠ [] := by simp [valB]
    rw [e, decA_step hne (rdV_val h1 h2 _) (by simp [valB]), List.drop_left, ih (fun x hx => h x (by simp [hx]))]
    simp

theorem decA_all (l : List Vl) (h : ∀ v ∈ l, okV v ∧ inV v) : decA [] (encL l) = (l, 0) := by
  have := decA_enc l h [] []
  rw [List.append_nil] at this
  rw [this, decA_nil]; rfl

theorem cmpVs_eq {a b : List Vl} (ha : ∀ v ∈ a, okV v ∧ inV v) (hb : ∀ v ∈ b, okV v ∧ inV v) (h : cmpVs a b = 0) : a = b := by
  rw [← enc_cmp a b ha hb] at h
  have e := cb_eq _ _ h
  have h1 := decA_all a ha
  rw [e, decA_all b hb] at h1
  simp only [Prod.mk.injEq, and_true] at h1
  exact h1.symm

end Go.Proofs.YtpdmocdfnakggaaDoor

namespace Go.Proofs.YtpdmocdfnakggaaDoor
open Go.RowKit

theorem sign_out {u : Nat} (h : u < 18446744073709551616) : IntKind.i64.wrap (bits BinOp.xor IntKind.u64 (u : Int) 9223372036854775808) = (u : Int) - 9223372036854775808 := by
  have h1 := bits_xor_u64_nat u 9223372036854775808 h (by omega)
  refine (congrArg IntKind.i64.wrap h1).trans ?_
  rw [xor_top h, IntKind.wrap_i64]
  split <;> omega

end Go.Proofs.YtpdmocdfnakggaaDoor

namespace Go.Proofs.YtpdmocdfnakggaaDoor
open Go.RowKit

theorem below_drew {w wr w2 : World} (h : Below w.heap.size w wr) (g : Below wr.drew.heap.size wr.drew w2) : Below w.heap.size w w2 :=
  h.trans ((⟨g.os, g.tape, g.output, g.size, g.block⟩ : Below wr.heap.size wr w2).mono h.size)

end Go.Proofs.YtpdmocdfnakggaaDoor

namespace Go.Proofs.YtpdmocdfnakggaaDoor
open Go.RowKit

theorem join8 (a c : Nat) (hc : c < 256) : a * 256 ||| c = a * 256 + c := by
  have h := Nat.two_pow_add_eq_or_of_lt (i := 8) (b := c) (by omega) a
  have e : 2 ^ 8 * a = a * 256 := by omega
  rw [e] at h
  exact h.symm

theorem shl_or {u c : Nat} (hu : u < 72057594037927936) (hc : c < 256) : bits BinOp.or IntKind.u64 (IntKind.u64.wrap ((u : Int) * 256)) (c : Int) = ((u * 256 + c : Nat) : Int) := by
  have e : IntKind.u64.wrap ((u : Int) * 256) = ((u * 256 : Nat) : Int) := by rw [IntKind.wrap_u64]; omega
  rw [e, u64_or_nat _ _ (by omega) (by omega), join8 u c hc]

theorem rdB_take {l : List UInt8} {k : Nat} (hk : k < l.length) : rdB 0 (l.take (k + 1)) = rdB 0 (l.take k) * 256 + l[k].toNat := by
  rw [List.take_add_one, List.getElem?_eq_getElem hk]
  show List.foldl _ 0 (l.take k ++ [l[k]]) = _
  rw [List.foldl_append]
  rfl

theorem rdB_lt (l : List UInt8) : ∀ k, k ≤ l.length → rdB 0 (l.take k) < 256 ^ k := by
  intro k
  induction k with
  | zero => intro _; simp [rdB]
  | succ k ih =>
    intro hk
    rw [rdB_take (by omega), Nat.pow_succ]
    have h1 := ih (by omega)
    have h2 := UInt8.toNat_lt l[k]
    omega

/-- What takeInt gives. -/
def intR (l : List UInt8) : Value := if l.length < 8 then .tuple #[.int .i64 0, .int .i64 8] else .tuple #[.int .i64 ((rdB 0 (l.take 8) : Int) - 9223372036854775808), .int .i64 0]

set_option maxHeartbeats 2000000 in
set_option maxRecDepth 100000 in
theorem takeInt_any (x : Value) (l : List UInt8) (w : World) (hx : Rd w x l) :
    Calls Tryd.prog 86 #[x] w fun e w' => e = .returned (intR l) ∧ w' = w := by
  have hlen := hx.len (P := Tryd.prog) 32 5
  unfold intR
  by_cases h8 : l.length < 8
  · obtain ⟨ao, c, rfl, -⟩ := hx
    rw [if_pos h8]
    go_enter Tryd.func86, Tryd.ntmps86
    go_wp2_with fail
    go_ret2
    exact ⟨rfl, rfl⟩
  · rw [if_neg h8]
    obtain ⟨b, off, cp, rfl, h1, h2, hc⟩ := hx.at (by omega)
    unfold maxLen at h2
    have HC := hid hc
    have H8 : Hid (8 ≤ l.length) := by show 8 ≤ l.length; omega
    clear hc hx
    go_enter Tryd.func86, Tryd.ntmps86
    go_wp2_with fail
    go_loop [4, 13] (fun u i => ∃ k : Nat, k ≤ 8 ∧ i = .int .i64 k ∧ u = .int .u64 (rdB 0 (l.take k) : Nat)) (fun _ i => 8 - (intOf i).toNat)
    case atStart => exact ⟨0, by omega, rfl, rfl⟩
    case round =>
      obtain ⟨k, hk, rfl, rfl⟩ := hrel
      by_cases hlt : k < 8
      · have hkl : k < l.length := by have := H8.out; omega
        have hck := HC.out k hkl
        have HT := hid (rdB_take hkl)
        have hlt2 := rdB_lt l k (by omega)
        have hp : 256 ^ k ≤ 256 ^ 7 := Nat.pow_le_pow_right (by decide) (by omega)
        have hc256 := UInt8.toNat_lt l[k]
        generalize rdB 0 (l.take k) = u at *
        generalize l[k] = c at *
        have hs := shl_or (u := u) (c := c.toNat) (by omega) hc256
        have e1 : IntKind.u64.wrap ((c.toNat : Nat) : Int) = ((c.toNat : Nat) : Int) := by rw [IntKind.wrap_u64]; omega
        clear hlt2 hp
        go_wp2_with fail
        go_round
        case rel => exact ⟨k + 1, by omega, by go_num, by rw [HT.out]; simp⟩
        case measure => simp [intOf]; omega
      · obtain rfl : k = 8 := by omega
        have hu := rdB_lt l 8 H8.out
        have hs := sign_out (u := rdB 0 (l.take 8)) (by omega)
        clear hu
        go_wp2_with fail
        go_ret2
        exact ⟨rfl, rfl⟩

/-- What takeText gives. -/
def textR (l : List UInt8) : Value := .tuple #[.string ⟨(rdT [] 0 l).1.toArray⟩, .int .i64 ((rdT [] 0 l).2.1 : Nat), .int .i64 (rdT [] 0 l).2.2]

theorem drop_cons {l : List UInt8} {k : Nat} (h : k < l.length) : l.drop k = l[k] :: l.drop (k + 1) := List.drop_eq_getElem_cons h

set_option maxHeartbeats 4000000 in
set_option maxRecDepth 100000 in
theorem takeText_any (x : Value) (l : List UInt8) (w : World) (hx : Rd w x l) :
    Calls Tryd.prog 87 #[x] w (Ans w (textR l)) := by
  have hlen := hx.len (P := Tryd.prog) 32 5
  obtain ⟨i0, hi, hz0, hz1, hz2⟩ := info_parts Tryd.info_u8
  unfold textR
  by_cases hl0 : l = []
  · subst hl0
    obtain ⟨ao, c, rfl, -⟩ := hx
    go_enter Tryd.func87, Tryd.ntmps87
    go_wp2_with fail
    refine wp_loop_rounds 1 ?_
    rw [rounds_succ]
    go_wp2_with fail
    go_ret3
    exact ⟨rfl, Below.refl _ _⟩
  obtain ⟨b, off, cp, rfl, h1, h2, hc⟩ := hx.at (List.length_pos_iff.2 hl0)
  unfold maxLen at h2
  have HX := hid hx
  have HC := hid (fun (wr : World) (hb : Below w.heap.size w wr) (k : Nat) (hk : k < l.length) => (by
    have := hc k hk
    rw [← this]
    exact hb.cell (p := ⟨b, off + k, none⟩) (World.block_lt_of_cell? w _ this) : wr.cell? ⟨b, off + k, none⟩ = some (.int .u8 ((l[k]).toNat : Int))))
  clear hc hx
  go_enter Tryd.func87, Tryd.ntmps87
  go_wp2_with fail
  go_loopw [5, 6] (fun y i wr => ∃ (k : Nat) (acc : List UInt8), k ≤ l.length ∧ i = .int .i64 k ∧ acc.length ≤ 20 ∧ rdT acc k (l.drop k) = rdT [] 0 l ∧ wr.ownsRow w.heap.size 5 1 y acc.length (acc.map bv) ∧ Below w.heap.size w wr) (fun _ i _ => l.length - (intOf i).toNat)
  case atStart => exact ⟨0, [], by omega, rfl, by simp, rfl, World.ownsRow_nil _ _ _ _, Below.refl _ _⟩
  case round =>
    obtain ⟨k, acc, hk, rfl, hal, hrd, hown, hb⟩ := hrel
    have HB := hid hb
    have HR := hid hrd
    have HQ : Hid (w.heap.size ≤ wr.heap.size) := hb.size
    clear hb hrd
    by_cases hlt : k < l.length
    · have hck := HC.out wr HB.out k hlt
      have HD := hid (drop_cons hlt)
      have hc256 := UInt8.toNat_lt l[k]
      have HZ : Hid (l[k] = 0 ↔ l[k].toNat = 0) := by show _ ↔ _; rw [← UInt8.toNat_inj]; rfl
      generalize l[k] = c at *
      by_cases hc0 : c.toNat = 0
      · have hcz := HZ.out.2 hc0
        subst hcz
        have hck' : wr.cell? ⟨b, off + k, none⟩ = some (.int .u8 0) := hck
        clear hck hc0 hc256 HZ
        by_cases hk1 : k + 1 < l.length
        · have hck1 := HC.out wr HB.out (k + 1) hk1
          have HD1 := hid (drop_cons hk1)
          have hd256 := UInt8.toNat_lt l[k + 1]
          have HZ1 : Hid (l[k + 1] = 1 ↔ l[k + 1].toNat = 1) := by show _ ↔ _; rw [← UInt8.toNat_inj]; rfl
          have HZ2 : Hid (l[k + 1] = 255 ↔ l[k + 1].toNat = 255) := by show _ ↔ _; rw [← UInt8.toNat_inj]; rfl
          generalize l[k + 1] = d at *
          have eo : off + (k + 1) = off + k + 1 := by omega
          have hke' : (((k : Int) + 1) == (l.length : Int)) = false := by simp; omega
          have HE : Hid (rdT [] 0 l = rdT acc k (0 :: d :: l.drop (k + 2))) := by show _ = _; rw [← HR.out, HD.out, HD1.out]
          clear HR HD HD1
          by_cases hd1 : d.toNat = 1
          · have hdz := HZ1.out.2 hd1
            subst hdz
            have hck1' : wr.cell? ⟨b, off + (k + 1), none⟩ = some (.int .u8 1) := hck1
            have HF : Hid (rdT [] 0 l = (acc, k + 2, 0)) := by show _ = _; rw [HE.out, rdT_end]
            have hcv := (Rd.own hown).conv (P := Tryd.prog) 32 9 5 Tryd.underlying32 Tryd.underlying5 Tryd.underlying9
            clear hck1 hd1 hd256 HZ1 HZ2
            rw [eo] at hck1'
            go_wp2_with fail
            go_ret3
            unfold Ans
            rw [HF.out]
            refine ⟨?_, HB.out⟩
            show Ending.returned (.tuple #[_, .int .i64 _, _]) = _
            first | rfl | (congr 4; omega) | (simp; omega)
          · by_cases hd2 : d.toNat = 255
            · have hdz := HZ2.out.2 hd2
              subst hdz
              have hck1' : wr.cell? ⟨b, off + (k + 1), none⟩ = some (.int .u8 255) := hck1
              rw [eo] at hck1'
              clear hck1 hd1 hd2 hd256 HZ1 HZ2
              go_wp2_with (first
                  | (at_builtin; refine wpList_append_own _ rfl _ _ 32 rfl w.heap.size 5 i0 (.int .u8 0) 1 1 Tryd.underlying32 hi hz0 hz1 hz2 rfl (by decide) _ _ _ rfl (hown.alloc _) ⟨wr.heap.size, 0, none⟩ 1 1 [bv 0] rfl rfl ?c1 ?c2 ?c3 ?c4 ?c5 ?_))
              case c1 => first | exact (cell_one_new _ _ _) | exact fun j u h => h
              case c2 => first | exact bv_one [_] | rfl
              case c3 => first | (unfold maxLen; omega) | (unfold maxLen; simp; omega)
              case c4 => first | omega | (simp; omega)
              case c5 => first | (have := HQ.out; omega) | (have := HQ.out; simp; omega)
              intro x2 w2 hown2 hg2 _
              obtain ⟨q1, q2⟩ := put_step (c := 0) HB.out (Nat.le_refl _) hown hown2 hg2
              have Q1 := hid q1
              have Q2 := hid q2
              have hlen2 := (Rd.own q1).len (P := Tryd.prog) 32 5
              have hl2 : (acc ++ [0]).length = acc.length + 1 := by simp
              rw [hl2] at hlen2
              clear hown2 hg2 hown q1 q2 hl2
              by_cases hbig : 20 < acc.length + 1
              · have HF : Hid (rdT [] 0 l = ([], 0, 9)) := by show _ = _; rw [HE.out, rdT_esc, if_pos hbig]
                go_wp2_with fail
                go_ret3
                unfold Ans
                rw [HF.out]
                exact ⟨rfl, Q2.out⟩
              · have HF : Hid (rdT [] 0 l = rdT (acc ++ [0]) (k + 2) (l.drop (k + 2))) := by show _ = _; rw [HE.out, rdT_esc, if_neg hbig]
                go_wp2_with fail
                go_roundw
                case rel => exact ⟨k + 2, acc ++ [0], by omega, by go_num, by simp; omega, HF.out.symm, Q1.out, Q2.out⟩
                case measure => simp [intOf]; omega
            · have h1 : d ≠ 1 := fun e => hd1 (HZ1.out.1 e)
              have h2' : d ≠ 255 := fun e => hd2 (HZ2.out.1 e)
              have HF : Hid (rdT [] 0 l = ([], 0, 9)) := by show _ = _; rw [HE.out, rdT_bad h1 h2']
              have hd1' : ¬ (d.toNat : Int) = 1 := by omega
              have hd2' : ¬ (d.toNat : Int) = 255 := by omega
              rw [eo] at hck1
              clear h1 h2' HZ1 HZ2
              go_wp2_with fail
              go_ret3
              unfold Ans
              rw [HF.out]
              exact ⟨rfl, HB.out⟩
        · have HF : Hid (rdT [] 0 l = ([], 0, 8)) := by
            show _ = _
            rw [← HR.out, HD.out, List.drop_eq_nil_of_le (by omega)]
            simp [rdT]
          have hke : k + 1 = l.length := by omega
          have hke' : (((k : Int) + 1) == (l.length : Int)) = true := by simp; omega
          go_wp2_with fail
          go_ret3
          unfold Ans
          rw [HF.out]
          exact ⟨rfl, HB.out⟩
      · have HE : Hid (rdT [] 0 l = rdT acc k (c :: l.drop (k + 1))) := by show _ = _; rw [← HR.out, HD.out]
        have HCZ : Hid (c ≠ 0) := fun e => hc0 (HZ.out.1 e)
        have hc1 : ¬ (c.toNat : Int) = 0 := by omega
        clear HR HD HZ hc0
        go_wp2_with (first
            | (at_builtin; refine wpList_append_own _ rfl _ _ 32 rfl w.heap.size 5 i0 (.int .u8 0) 1 1 Tryd.underlying32 hi hz0 hz1 hz2 rfl (by decide) _ _ _ rfl (hown.alloc _) ⟨wr.heap.size, 0, none⟩ 1 1 [bv c] rfl rfl ?c1 ?c2 ?c3 ?c4 ?c5 ?_))
        case c1 => first | exact (cell_one_new _ _ _) | exact fun j u h => h
        case c2 => first | exact bv_one [_] | rfl
        case c3 => first | (unfold maxLen; omega) | (unfold maxLen; simp; omega)
        case c4 => first | omega | (simp; omega)
        case c5 => first | (have := HQ.out; omega) | (have := HQ.out; simp; omega)
        intro x2 w2 hown2 hg2 _
        obtain ⟨q1, q2⟩ := put_step (c := c) HB.out (Nat.le_refl _) hown hown2 hg2
        have Q1 := hid q1
        have Q2 := hid q2
        have hlen2 := (Rd.own q1).len (P := Tryd.prog) 32 5
        have hl2 : (acc ++ [c]).length = acc.length + 1 := by simp
        rw [hl2] at hlen2
        clear hown2 hg2 hown q1 q2 hl2
        by_cases hbig : 20 < acc.length + 1
        · have HF : Hid (rdT [] 0 l = ([], 0, 9)) := by show _ = _; rw [HE.out, (rdT_c HCZ.out), if_pos hbig]
          go_wp2_with fail
          go_ret3
          unfold Ans
          rw [HF.out]
          exact ⟨rfl, Q2.out⟩
        · have HF : Hid (rdT [] 0 l = rdT (acc ++ [c]) (k + 1) (l.drop (k + 1))) := by show _ = _; rw [HE.out, (rdT_c HCZ.out), if_neg hbig]
          go_wp2_with fail
          go_roundw
          case rel => exact ⟨k + 1, acc ++ [c], by omega, by go_num, by simp; omega, HF.out.symm, Q1.out, Q2.out⟩
          case measure => simp [intOf]; omega
    · obtain rfl : k = l.length := by omega
      have HF : Hid (rdT [] 0 l = ([], 0, 8)) := by
        show _ = _
        rw [← HR.out, List.drop_length]
        rfl
      go_wp2_with fail
      go_ret3
      unfold Ans
      rw [HF.out]
      exact ⟨rfl, HB.out⟩
end Go.Proofs.YtpdmocdfnakggaaDoor

namespace Go.Proofs.YtpdmocdfnakggaaDoor
open Go.RowKit

theorem results_cell3 {P : Program} {fn : Func} {p u v : Tmp} {ty : TypeId} (h : fn.results = #[.cell p ty, .tmp u, .tmp v]) (tmps : Array Value) (w : World) (g : Nat) (t : TypeId) (cs : Array Value) (fr : Nat × Nat) (d : TypeDesc)
    (hp : tmps.getD p undef = .pointer (some ⟨g, 0, none⟩)) (hg : w.heap[g]? = some (.cells cs t fr))
    (hu : P.underlying ty = some d) (hd : (match d with | .struct _ | .array _ _ => true | _ => false) = true) (hi : (P.info? ty).map (·.size) = some cs.size) :
    (results fn tmps).run P w = .ok (.tuple #[.agg cs, tmps.getD u undef, tmps.getD v undef]) w := by
  have hp' : tmps[p]?.getD undef = .pointer (some ⟨g, 0, none⟩) := by simpa using hp
  simp [results, h, hp', asAddr, run_loadVar_row w g t ty cs fr d hg hu hd hi]

theorem three_frozen {w : World} {b : Nat} {x y z : Value} {t : TypeId} (h : w.heap[b]? = some (.cells #[x, y, z] t (0, 0))) :
    w.frozen? ⟨b, 0, none⟩ = false ∧ w.frozen? ⟨b, 1, none⟩ = false ∧ w.frozen? ⟨b, 2, none⟩ = false := by
  simp [World.frozen?, h]

theorem below_three {w w2 : World} {x y z : Value} (h : Below w.heap.size w w2) : Below w.heap.size w (((w2.setCell ⟨w.heap.size, 0, none⟩ x).setCell ⟨w.heap.size, 1, none⟩ y).setCell ⟨w.heap.size, 2, none⟩ z) := by
  have k1 := h.grown (grown_set w2 ⟨w.heap.size, 0, none⟩ x) h.size (fun k hk => by cases hk; exact Nat.le_refl _)
  have k2 := k1.grown (grown_set _ ⟨w.heap.size, 1, none⟩ y) k1.size (fun k hk => by cases hk; exact Nat.le_refl _)
  exact k2.grown (grown_set _ ⟨w.heap.size, 2, none⟩ z) k2.size (fun k hk => by cases hk; exact Nat.le_refl _)

theorem rdT_le : ∀ (r acc : List UInt8) (used : Nat), (rdT acc used r).2.1 ≤ used + r.length
  | [], acc, used => by simp [rdT]
  | [c], acc, used => by
    unfold rdT
    split
    · simp
    · split <;> simp
  | c :: d :: r, acc, used => by
    unfold rdT
    have h1 := rdT_le r (acc ++ [c]) (used + 2)
    have h2 := rdT_le (d :: r) (acc ++ [c]) (used + 1)
    simp only [List.length_cons] at *
    repeat' split
    all_goals (first | omega | (dsimp only; omega))

theorem three_set {w : World} {b : Nat} {x y z x' y' z' : Value} {t : TypeId} (h : w.heap[b]? = some (.cells #[x, y, z] t (0, 0))) :
    (((w.setCell ⟨b, 0, none⟩ x').setCell ⟨b, 1, none⟩ y').setCell ⟨b, 2, none⟩ z').heap[b]? = some (.cells #[x', y', z'] t (0, 0)) := by
  have e0 := heap_setCell_same w b 0 #[x, y, z] t x' h
  have e1 := heap_setCell_same _ b 1 _ t y' e0
  have e2 := heap_setCell_same _ b 2 _ t z' e1
  exact e2

/-- What take gives. -/
def takeR (l : List UInt8) : Value := .tuple #[sv (rdV l).1, .int .i64 ((rdV l).2.1 : Nat), .int .i64 (rdV l).2.2]

theorem kind_at (k : Int) (w : World) (hk : k = 0 ∨ k = 1 ∨ k = 2) : Calls Tryd.prog 79 #[.int .i64 k] w fun e w' => e = .returned (.int .u8 (k + 1)) ∧ w' = w :=
  (kind_any k w hk).mono fun e w' ⟨h1, h2⟩ => ⟨by rw [h1]; rcases hk with rfl | rfl | rfl <;> rfl, h2⟩

set_option maxHeartbeats 4000000 in
set_option maxRecDepth 100000 in
theorem take_any (x : Value) (l : List UInt8) (w : World) (hx : Rd w x l) (hl : l ≠ []) :
    Calls Tryd.prog 85 #[x] w (Ans w (takeR l)) := by
  have hl1 : 1 ≤ l.length := List.length_pos_iff.2 hl
  have K := fun k w hk => kind_at k w hk
  have BA := (Below.refl w.heap.size w).alloc (Nat.le_refl _) (.cells #[.int .i64 0, .int .i64 0, .string ⟨#[]⟩] 44)
  obtain ⟨ao2, c2, hs2, hr2, hb2⟩ := hx.cut (P := Tryd.prog) 32 5 Tryd.underlying32 (by kernel_rfl) 1 hl1
  have hs2' : ∀ W, (Instr.slice 32 x (some (.int .i64 1)) none none).run Tryd.prog W = .ok (.slice ao2 (l.length - 1) c2) W := hs2
  have hrA := hr2.old BA
  have CI := takeInt_any _ _ _ hrA
  have CT := takeText_any _ _ _ hrA
  obtain ⟨b, off, cp, rfl, h1, h2, hc⟩ := hx.at (by omega)
  unfold maxLen at h2
  have d0 := hc 0 (by omega)
  have hcons : l = l[0] :: l.drop 1 := by
    cases l with
    | nil => exact absurd rfl hl
    | cons c r => rfl
  have HV : Hid (rdV l = rdV (l[0] :: l.drop 1)) := congrArg rdV hcons
  have dA : (w.alloc (.cells #[.int .i64 0, .int .i64 0, .string ⟨#[]⟩] 44)).cell? ⟨b, off, none⟩ = some (.int .u8 (l[0].toNat : Int)) := by
    rw [← d0]; exact BA.cell (p := ⟨b, off, none⟩) (World.block_lt_of_cell? w _ d0)
  have hc256 := UInt8.toNat_lt l[0]
  have HZ : Hid (∀ d : UInt8, l[0] = d ↔ l[0].toNat = d.toNat) := fun d => by rw [← UInt8.toNat_inj]
  generalize l[0] = c at *
  have HRL : Hid ((l.drop 1).length + 1 < 2 ^ 63) := by show _ < _; rw [List.length_drop]; omega
  generalize l.drop 1 = r at *
  have HBA := hid BA
  clear hs2 hr2 hb2 hrA hx hc d0 hcons BA
  by_cases c1 : c.toNat = 1
  · have hcz : c = 1 := (HZ.out 1).2 c1
    subst hcz
    have dA' : (w.alloc (.cells #[.int .i64 0, .int .i64 0, .string ⟨#[]⟩] 44)).cell? ⟨b, off, none⟩ = some (.int .u8 1) := dA
    have HF : Hid (rdV l = (⟨0, 0, []⟩, 1, 0)) := HV.out
    clear dA c1 hc256 HZ CI CT
    go_enter Tryd.func85, Tryd.ntmps85
    go_wp2_with (first | (go_at_call 79; refine (K _ _ (by simp)).mono ?_; rintro e w' ⟨rfl, rfl⟩))
    (try simp only [Exit.inBlock, Exit.then])
    refine bodyPost_ret (results_cell3 rfl _ _ w.heap.size 44 _ (0, 0) _ rfl (heap_alloc_new _ _) Tryd.underlying44 rfl (by kernel_rfl)) rfl ?_
    unfold Ans takeR
    rw [HF.out]
    exact ⟨rfl, HBA.out⟩
  · by_cases c2' : c.toNat = 2
    · have hcz : c = 2 := (HZ.out 2).2 c2'
      subst hcz
      have dA' : (w.alloc (.cells #[.int .i64 0, .int .i64 0, .string ⟨#[]⟩] 44)).cell? ⟨b, off, none⟩ = some (.int .u8 2) := dA
      clear dA c1 c2' hc256 HZ CT
      by_cases h8 : r.length < 8
      · have HF : Hid (rdV l = (⟨1, 0, []⟩, 9, 8)) := by show _ = _; rw [HV.out, rdV_cons, if_neg (by decide), if_pos rfl, if_pos h8]
        unfold intR at CI
        rw [if_pos h8] at CI
        go_enter Tryd.func85, Tryd.ntmps85
        go_wp2_with (first | (go_at_call 79; refine (K _ _ (by simp)).mono ?_; rintro e w' ⟨rfl, rfl⟩) | (go_at_call 86; refine CI.mono ?_; rintro e w' ⟨rfl, rfl⟩))
        (try simp only [Exit.inBlock, Exit.then])
        refine bodyPost_ret (results_cell3 rfl _ _ w.heap.size 44 _ (0, 0) _ rfl (heap_alloc_new _ _) Tryd.underlying44 rfl (by kernel_rfl)) rfl ?_
        unfold Ans takeR
        rw [HF.out]
        exact ⟨rfl, ((Below.refl w.heap.size w).alloc (Nat.le_refl _) _)⟩
      · have HF : Hid (rdV l = (⟨1, (rdB 0 (r.take 8) : Int) - 9223372036854775808, []⟩, 9, 0)) := by show _ = _; rw [HV.out, rdV_cons, if_neg (by decide), if_pos rfl, if_neg h8]
        unfold intR at CI
        rw [if_neg h8] at CI
        go_enter Tryd.func85, Tryd.ntmps85
        go_wp2_with (first | (go_at_call 79; refine (K _ _ (by simp)).mono ?_; rintro e w' ⟨rfl, rfl⟩) | (go_at_call 86; refine CI.mono ?_; rintro e w' ⟨rfl, rfl⟩))
        (try simp only [Exit.inBlock, Exit.then])
        refine bodyPost_ret (results_cell3 rfl _ _ w.heap.size 44 _ (0, 0) _ rfl (heap_alloc_new _ _) Tryd.underlying44 rfl (by kernel_rfl)) rfl ?_
        unfold Ans takeR
        rw [HF.out]
        exact ⟨rfl, ((Below.refl w.heap.size w).alloc (Nat.le_refl _) _)⟩
    · by_cases c3' : c.toNat = 3
      · have hcz : c = 3 := (HZ.out 3).2 c3'
        subst hcz
        have dA' : (w.alloc (.cells #[.int .i64 0, .int .i64 0, .string ⟨#[]⟩] 44)).cell? ⟨b, off, none⟩ = some (.int .u8 3) := dA
        clear dA c1 c2' c3' hc256 HZ CI
        have HF : Hid (rdV l = (⟨2, 0, (rdT [] 0 r).1⟩, 1 + (rdT [] 0 r).2.1, (rdT [] 0 r).2.2)) := by show _ = _; rw [HV.out, rdV_cons, if_neg (by decide), if_neg (by decide), if_pos rfl]
        have hle := rdT_le r [] 0
        unfold textR at CT
        generalize rdT [] 0 r = t at *
        obtain ⟨t1, t2, t3⟩ := t
        simp only at HF CT hle
        have hrl : r.length + 1 < 2 ^ 63 := HRL.out
        have HA0 : Hid ((w.alloc (.cells #[.int .i64 0, .int .i64 0, .string ⟨#[]⟩] 44)).heap[w.heap.size]? = some (.cells #[.int .i64 0, .int .i64 0, .string ⟨#[]⟩] 44 (0, 0))) := heap_alloc_new _ _
        have HSZ : Hid ((w.alloc (.cells #[.int .i64 0, .int .i64 0, .string ⟨#[]⟩] 44)).heap.size = w.heap.size + 1) := by simp [Hid]
        go_enter Tryd.func85, Tryd.ntmps85
        go_wp2_with (first | (go_at_call 79; refine (K _ _ (by simp)).mono ?_; rintro e w' ⟨rfl, rfl⟩) | (go_at_call 87; refine CT.mono ?_))
        rintro e w2 ⟨rfl, hb2⟩
        have hk : w2.heap[w.heap.size]? = some (.cells #[.int .i64 0, .int .i64 0, .string ⟨#[]⟩] 44 (0, 0)) := (hb2.block w.heap.size (by rw [HSZ.out]; exact Nat.lt_succ_self _)).trans HA0.out
        have HK := hid hk
        have HB2 := hid (alloc_then (Below.refl w.heap.size w) hb2)
        obtain ⟨e1, e2, e3⟩ := three_cells hk
        obtain ⟨f1, f2, f3⟩ := three_frozen hk
        have HS := hid (three_set (x' := .int .i64 2) (y' := .int .i64 0) (z' := .string ⟨t1.toArray⟩) hk)
        clear hk hb2
        go_wp2_with fail
        have hwr : (1 + (t2 : Int)) = ((1 + t2 : Nat) : Int) := by omega
        rw [hwr]
        (try simp only [Exit.inBlock, Exit.then])
        refine bodyPost_ret (results_cell3 rfl _ _ w.heap.size 44 _ (0, 0) _ rfl HS.out Tryd.underlying44 rfl (by kernel_rfl)) rfl ?_
        unfold Ans takeR
        rw [HF.out]
        exact ⟨rfl, below_three HB2.out⟩
      · have HF : Hid (rdV l = (⟨0, 0, []⟩, 0, 9)) := by show _ = _; rw [HV.out, rdV_cons, if_neg (fun e => c1 ((HZ.out 1).1 e)), if_neg (fun e => c2' ((HZ.out 2).1 e)), if_neg (fun e => c3' ((HZ.out 3).1 e))]
        have q1 : ¬ (c.toNat : Int) = 1 := by omega
        have q2 : ¬ (c.toNat : Int) = 2 := by omega
        have q3 : ¬ (c.toNat : Int) = 3 := by omega
        clear HZ CI CT
        go_enter Tryd.func85, Tryd.ntmps85
        go_wp2_with (first | (go_at_call 79; refine (K _ _ (by simp)).mono ?_; rintro e w' ⟨rfl, rfl⟩))
        (try simp only [Exit.inBlock, Exit.then])
        refine bodyPost_ret (results_cell3 rfl _ _ w.heap.size 44 _ (0, 0) _ rfl (heap_alloc_new _ _) Tryd.underlying44 rfl (by kernel_rfl)) rfl ?_
        unfold Ans takeR
        rw [HF.out]
        exact ⟨rfl, ((Below.refl w.heap.size w).alloc (Nat.le_refl _) _)⟩
end Go.Proofs.YtpdmocdfnakggaaDoor

namespace Go.Proofs.YtpdmocdfnakggaaDoor
open Go.RowKit

theorem rdV_ok {b : List UInt8} (hb : b ≠ []) (h : (rdV b).2.2 = 0) : 1 ≤ (rdV b).2.1 ∧ (rdV b).2.1 ≤ b.length := by
  cases b with
  | nil => exact absurd rfl hb
  | cons c r =>
    rw [rdV_cons] at h ⊢
    by_cases h1 : c = 1
    · rw [if_pos h1]; simp
    · rw [if_neg h1] at h ⊢
      by_cases h2 : c = 2
      · rw [if_pos h2] at h ⊢
        by_cases h8 : r.length < 8
        · rw [if_pos h8] at h; simp at h
        · rw [if_neg h8]; simp; omega
      · rw [if_neg h2] at h ⊢
        by_cases h3 : c = 3
        · rw [if_pos h3]
          have := rdT_le r [] 0
          simp only [List.length_cons]
          omega
        · rw [if_neg h3] at h; simp at h

/-- Why bytes are no values, or 0; the values; how many bytes. -/
def decE (l : List UInt8) : Int := if (decA [] l).2 = 0 then (if 16 < (decA [] l).1.length then 10 else 0) else (decA [] l).2
def decO (l : List UInt8) : List Vl := if decE l = 0 then (decA [] l).1 else []
def decN (l : List UInt8) : Nat := if decE l = 0 then l.length else 0

theorem dec_err {l : List UInt8} {e : Int} {x : List Vl} (h : decA [] l = (x, e)) (he : e ≠ 0) : decE l = e ∧ decO l = [] ∧ decN l = 0 := by
  have h1 : decE l = e := by unfold decE; rw [h, if_neg he]
  exact ⟨h1, by unfold decO; rw [h1, if_neg he], by unfold decN; rw [h1, if_neg he]⟩

theorem dec_long {l : List UInt8} {x : List Vl} (h : decA [] l = (x, 0)) (hl : 16 < x.length) : decE l = 10 ∧ decO l = [] ∧ decN l = 0 := by
  have h1 : decE l = 10 := by unfold decE; rw [h, if_pos rfl, if_pos hl]
  exact ⟨h1, by unfold decO; rw [h1, if_neg (by decide)], by unfold decN; rw [h1, if_neg (by decide)]⟩

theorem dec_ok {l : List UInt8} {x : List Vl} (h : decA [] l = (x, 0)) (hl : ¬ 16 < x.length) : decE l = 0 ∧ decO l = x ∧ decN l = l.length := by
  have h1 : decE l = 0 := by unfold decE; rw [h, if_pos rfl, if_neg hl]
  exact ⟨h1, by unfold decO; rw [h1, if_pos rfl, h], by unfold decN; rw [h1, if_pos rfl]⟩

/-- What Dec gives. -/
def DecIs (l : List UInt8) (w : World) (e : Ending) (w' : World) : Prop :=
  ∃ y, e = .returned (.tuple #[y, .int .i64 (decN l : Nat), .int .i64 (decE l)]) ∧ w'.ownsRow w.heap.size 44 3 y (decO l).length (cellsL (decO l)) ∧ Below w.heap.size w w'

theorem DecIs.elim {l : List UInt8} {w : World} {e : Ending} {w' : World} (h : DecIs l w e w') : ∃ (ao : Option Addr) (c : Nat), e = .returned (.tuple #[.slice ao (decO l).length c, .int .i64 (decN l : Nat), .int .i64 (decE l)]) ∧ w'.ownsRow w.heap.size 44 3 (.slice ao (decO l).length c) (decO l).length (cellsL (decO l)) ∧ Below w.heap.size w w' := by
  obtain ⟨y, rfl, h1, h2⟩ := h
  obtain ⟨ao, c, rfl, _⟩ := Vs.own h1
  exact ⟨ao, c, rfl, h1, h2⟩

theorem vown_old {w w' : World} {base : Nat} {v : Value} {n : Nat} {xs : List Value} (h : w.ownsRow base 44 3 v n xs) (hb : Below w.heap.size w w') : w'.ownsRow base 44 3 v n xs := own_old h hb

set_option maxHeartbeats 4000000 in
set_option maxRecDepth 100000 in
theorem dec_any (x : Value) (l : List UInt8) (w : World) (hx : Rd w x l) (hl : l.length ≤ 900000) :
    Calls Tryd.prog 77 #[x] w (DecIs l w) := by
  obtain ⟨ao, c, rfl, -⟩ := id hx
  have hlen := hx.len (P := Tryd.prog) 32 5
  have HX := hid hx
  clear hx
  go_enter Tryd.func77, Tryd.ntmps77
  go_wp2_with fail
  go_loopw [5, 6, 7] (fun y n i wr => ∃ (k : Nat) (acc : List Vl), k ≤ l.length ∧ i = .int .i64 (k : Int) ∧ n = .int .i64 (acc.length : Int) ∧ acc.length ≤ k ∧ decA acc (l.drop k) = decA [] l ∧ wr.ownsRow w.heap.size 44 3 y (acc.take 16).length (cellsL (acc.take 16)) ∧ Below w.heap.size w wr) (fun _ _ i _ => l.length - (intOf i).toNat)
  case atStart => exact ⟨0, [], by omega, rfl, rfl, by simp, rfl, World.ownsRow_nil _ _ _ _, Below.refl _ _⟩
  case round =>
    obtain ⟨k, acc, hk, rfl, rfl, hak, hdec, hown, hb⟩ := hrel
    have HB := hid hb
    have HD := hid hdec
    have HO := hid hown
    clear hb hdec hown
    by_cases hlt : k < l.length
    · obtain ⟨ao2, c2, hs2, hr2, -⟩ := (HX.out.old HB.out).cut (P := Tryd.prog) 32 5 Tryd.underlying32 (by kernel_rfl) k (by omega)
      have hne : l.drop k ≠ [] := by intro e; have := congrArg List.length e; simp at this; omega
      have C := take_any _ _ wr hr2 hne
      have HOK := hid (fun h => rdV_ok hne h)
      have HST := hid (fun v n (h : rdV (l.drop k) = (v, n, 0)) (hn : 1 ≤ n) => decA_step (acc := acc) hne h hn)
      have HER := hid (fun e (h : (rdV (l.drop k)).2.2 = e) (h0 : e ≠ 0) => decA_err (acc := acc) hne h h0)
      have hdl : (l.drop k).length = l.length - k := List.length_drop
      unfold takeR at C
      generalize rdV (l.drop k) = t at *
      obtain ⟨v, n, e⟩ := t
      simp only at C
      have HDL := hid hdl
      unfold sv at C
      clear hr2 hne hdl
      go_wp2_with (first | (go_at_call 85; refine C.mono ?_))
      rintro e1 w2 ⟨rfl, hb2⟩
      have hown2 := vown_old HO.out hb2
      have HB2 := hid (HB.out.trans (hb2.mono HB.out.size))
      have HQ : Hid (w.heap.size ≤ w2.heap.size) := HB2.out.size
      clear C hb2 HO
      by_cases he : e = 0
      · subst he
        obtain ⟨hn1, hn2⟩ := HOK.out rfl
        have hn1 : 1 ≤ n := hn1
        have hn2 : n ≤ (l.drop k).length := hn2
        have hn3 : k + n ≤ l.length := by have := HDL.out; omega
        have he1 := (HST.out v n rfl hn1).symm.trans HD.out
        rw [List.drop_drop] at he1
        have HE := hid he1
        have hal : (acc ++ [v]).length = acc.length + 1 := by simp
        have HAL := hid hal
        have B1 := HB2.out.alloc HB2.out.size (.cells #[.int .i64 v.k, .int .i64 v.i, .string ⟨v.s.toArray⟩] 44)
        have HB3 := hid B1
        clear he1 hal B1 HST HER HOK
        by_cases h16 : acc.length < 16
        · have HT : Hid ((acc ++ [v]).take 16 = acc.take 16 ++ [v]) := by
            show _ = _
            rw [List.take_of_length_le (by simp; omega), List.take_of_length_le (by omega)]
          have hao := hown2.alloc (.cells #[.int .i64 v.k, .int .i64 v.i, .string ⟨v.s.toArray⟩] 44)
          have hao2 := hao.alloc (.cells #[.int .i64 v.k, .int .i64 v.i, .string ⟨v.s.toArray⟩] 44)
          have HSZ : Hid ((w2.alloc (.cells #[.int .i64 v.k, .int .i64 v.i, .string ⟨v.s.toArray⟩] 44)).heap.size = w2.heap.size + 1) := by simp [Hid]
          have hv1 : Vs ((w2.alloc (.cells #[.int .i64 v.k, .int .i64 v.i, .string ⟨v.s.toArray⟩] 44)).alloc (.cells #[.int .i64 v.k, .int .i64 v.i, .string ⟨v.s.toArray⟩] 44)) (.slice (some ⟨w2.heap.size + 1, 0, none⟩) 1 1) [v] := by
            refine Vs.one (t := 44) ?_
            rw [← HSZ.out]; exact heap_alloc_new _ _
          have htl : (acc.take 16).length = acc.length := by rw [List.length_take]; omega
          have HTL := hid htl
          have HAO := hid hao
          have HAO2 := hid hao2
          have HV1 := hid hv1
          clear htl hao hao2 hv1 hown2
          go_wp2_with (first
            | (at_builtin; refine wp_vapp rfl _ _ 28 rfl w.heap.size 44 Tryd.underlying28 _ info_val (by decide) _ _ _ rfl HAO2.out _ [v] rfl HV1.out ?c1 ?c2 ?_))
          case c1 => rw [HTL.out]; simp; omega
          case c2 => have := HQ.out; simp; omega
          intro x4 w4 o4 g4
          have HB4 := hid (HB3.out.trans (vown_below HAO.out HB3.out.size g4))
          have HO4 := hid o4
          clear o4 g4
          go_wp2_with fail
          go_roundw
          case rel => exact ⟨k + n, acc ++ [v], by omega, by go_num, by rw [HAL.out]; go_num, by rw [HAL.out]; omega, HE.out, by rw [HT.out, List.length_append, cellsL_app, List.length_take]; exact HO4.out, HB4.out⟩
          case measure => simp [intOf]; omega
        · have HT : Hid ((acc ++ [v]).take 16 = acc.take 16) := by
            show _ = _
            rw [List.take_append_of_le_length (by omega)]
          have HAO := hid (hown2.alloc (.cells #[.int .i64 v.k, .int .i64 v.i, .string ⟨v.s.toArray⟩] 44))
          clear hown2
          go_wp2_with fail
          go_roundw
          case rel => exact ⟨k + n, acc ++ [v], by omega, by go_num, by rw [HAL.out]; go_num, by rw [HAL.out]; omega, HE.out, by rw [HT.out]; exact HAO.out, HB3.out⟩
          case measure => simp [intOf]; omega
      · have HE := hid (dec_err (HD.out.symm.trans (HER.out e rfl he)) he)
        have he' : ¬ (e == 0) = true := by simp [he]
        go_wp2_with fail
        go_ret3
        obtain ⟨h1, h2, h3⟩ := HE.out
        unfold DecIs
        rw [h1, h2, h3]
        exact ⟨_, rfl, World.ownsRow_nil _ _ _ _, HB2.out.alloc HB2.out.size _⟩
    · obtain rfl : k = l.length := by omega
      have HF : Hid (decA [] l = (acc, 0)) := by show _ = _; rw [← HD.out, List.drop_length, decA_nil]
      by_cases h16 : 16 < acc.length
      · have HE := hid (dec_long HF.out h16)
        go_wp2_with fail
        go_ret3
        obtain ⟨h1, h2, h3⟩ := HE.out
        unfold DecIs
        rw [h1, h2, h3]
        exact ⟨_, rfl, World.ownsRow_nil _ _ _ _, HB.out⟩
      · have HE := hid (dec_ok HF.out h16)
        go_wp2_with fail
        go_ret3
        obtain ⟨h1, h2, h3⟩ := HE.out
        unfold DecIs
        rw [h1, h2, h3]
        have := HO.out
        rw [List.take_of_length_le (by omega)] at this
        exact ⟨_, rfl, this, HB.out⟩
end Go.Proofs.YtpdmocdfnakggaaDoor

namespace Go.Proofs.YtpdmocdfnakggaaDoor
open Go.RowKit

/-- Right values' bytes are read. -/
theorem dec_right (x : Value) (l : List Vl) (w : World) (hx : Rd w x (encL l)) (hin : ∀ v ∈ l, inV v) (hok : ∀ v ∈ l, okV v) (h16 : l.length ≤ 16) :
    Calls Tryd.prog 77 #[x] w fun e w' => ∃ (ao : Option Addr) (c : Nat), e = .returned (.tuple #[.slice ao l.length c, .int .i64 ((encL l).length : Nat), .int .i64 0]) ∧ w'.ownsRow w.heap.size 44 3 (.slice ao l.length c) l.length (cellsL l) ∧ Below w.heap.size w w' := by
  have hd := decA_all l (fun v hv => ⟨hok v hv, hin v hv⟩)
  obtain ⟨h1, h2, h3⟩ := dec_ok hd (by omega)
  have hl := encL_len hok
  refine (dec_any x (encL l) w hx (by omega)).mono fun e w' h => ?_
  obtain ⟨ao, c, he, ho, hb⟩ := h.elim
  rw [h1, h2, h3] at he
  rw [h2] at ho
  exact ⟨ao, c, he, ho, hb⟩
end Go.Proofs.YtpdmocdfnakggaaDoor

set_option linter.unusedVariables false
set_option linter.unusedSimpArgs false
set_option maxRecDepth 100000
namespace Go.Proofs.YtpdmocdfnakggaaDoor
open Go.RowKit Go.Deep

set_option maxHeartbeats 1000000 in
theorem zequal_any (w : World) {x y : Value} {A B : List UInt8} (hx : Rd w x A) (hy : Rd w y B) : Calls Tryd.prog 64 #[x, y] w (fun e w' => e = .returned (.bool (A == B)) ∧ w' = w) := by
  have t1 := hx.conv (P := Tryd.prog) 32 9 5 Tryd.underlying32 Tryd.underlying5 Tryd.underlying9
  have t2 := hy.conv (P := Tryd.prog) 32 9 5 Tryd.underlying32 Tryd.underlying5 Tryd.underlying9
  clear hx hy
  go_enter Tryd.func64, Tryd.ntmps64
  go_wp2_with fail
  go_ret
  exact ⟨by simp [ByteArray.toList_eq], rfl⟩

theorem pre_take {p l : List UInt8} : (p ++ l).take p.length = p := by simp

set_option maxHeartbeats 2000000 in
theorem zhas_ok (w : World) {x y : Value} {p l : List UInt8} (hx : Rd w x (p ++ l)) (hy : Rd w y p) : Calls Tryd.prog 84 #[x, y] w (fun e w' => e = .returned (.bool true) ∧ w' = w) := by
  obtain ⟨a1, c1, rfl⟩ := zrd_form hx
  obtain ⟨a2, c2, rfl⟩ := zrd_form hy
  have hn : p.length ≤ (p ++ l).length := by simp
  obtain ⟨a3, c3, hs, hr, -⟩ := hx.head (P := Tryd.prog) 32 5 Tryd.underlying32 (by kernel_rfl) p.length hn
  rw [pre_take] at hr
  have CE := hid (zequal_any w hr hy)
  rw [beq_self_eq_true] at CE
  have hq : ¬ ((p ++ l).length : Int) < (p.length : Int) := by omega
  have hq2 : (p.length : Int) ≤ ((p ++ l).length : Int) := by omega
  have hs' := fun W => hs .i64 W
  generalize (p ++ l).length = n at *
  clear hx hy hr hs
  go_enter Tryd.func84, Tryd.ntmps84
  go_wp2_with (first | (go_at_call 64; refine CE.out.mono ?_; rintro en w2 ⟨rfl, rfl⟩))
  go_ret
  exact ⟨rfl, rfl⟩

set_option maxHeartbeats 2000000 in
theorem zcut_ok (w : World) {x y : Value} {p l : List UInt8} (hx : Rd w x (p ++ l)) (hy : Rd w y p) : Calls Tryd.prog 76 #[x, y] w (fun e w' => ∃ a c, e = .returned (.tuple #[.slice a l.length c, .bool true]) ∧ Rd w (.slice a l.length c) l ∧ w' = w) := by
  have CH := hid (zhas_ok w hx hy)
  obtain ⟨a1, c1, rfl⟩ := zrd_form hx
  obtain ⟨a2, c2, rfl⟩ := zrd_form hy
  have hn : p.length ≤ (p ++ l).length := by simp
  obtain ⟨a3, c3, hs, hr, -⟩ := hx.cut (P := Tryd.prog) 32 5 Tryd.underlying32 (by kernel_rfl) p.length hn
  rw [List.drop_left] at hr
  have hd : (p ++ l).length - p.length = l.length := by simp
  rw [hd] at hs hr
  have HR := hid hr
  generalize (p ++ l).length = n at *
  clear hx hy hr hd
  go_enter Tryd.func76, Tryd.ntmps76
  go_wp2_with (first | (go_at_call 84; refine CH.out.mono ?_; rintro en w2 ⟨rfl, rfl⟩))
  go_ret2
  exact ⟨_, _, rfl, HR.out, rfl⟩

set_option maxHeartbeats 2000000 in
theorem vbehind_ok {w : World} {x y : Value} {p : List UInt8} {l : List Vl} (hx : Rd w x p) (hy : Rd w y (p ++ encL l)) (hl : OkL l) (h16 : l.length ≤ 16) :
    Calls Tryd.prog 61 #[x, y] w (fun e w' => ∃ v, e = .returned (.tuple #[v, .nilIface]) ∧ w'.ownsRow w.heap.size 44 3 v l.length (cellsL l) ∧ Below w.heap.size w w') := by
  have CC := hid (zcut_ok w hy hx)
  obtain ⟨a1, c1, rfl⟩ := zrd_form hx
  obtain ⟨a2, c2, rfl⟩ := zrd_form hy
  have CN := fun W => new_ok ⟨#[98, 121, 116, 101, 115]⟩ W
  have HL := hid hl
  generalize (p ++ encL l).length = n at *
  clear hx hl
  go_enter Tryd.func61, Tryd.ntmps61
  go_upto_region 4 with (first | (go_at_call 76; refine CC.out.mono ?_; rintro en w2 ⟨a3, c3, rfl, hr, hw2⟩; subst hw2; have CD := hid (dec_right _ l w2 hr HL.out.inn HL.out.ok h16); clear hr CC))
  go_wp2_with (first
    | (go_at_call 77; refine CD.out.mono ?_; rintro en w3 ⟨ao, c, rfl, ho3, hb3⟩; have HO3 := hid ho3; have HB3 := hid hb3; clear ho3 hb3)
    | (go_at_call 52; refine (CN _).mono ?_; rintro en w4 ⟨rfl, rfl⟩))
  go_ret2
  exact ⟨_, rfl, HO3.out, HB3.out⟩

set_option maxHeartbeats 2000000 in
theorem samePair_ok {w : World} {k1 v1 k2 v2 : Value} {n1 n2 : Int} {K V : List UInt8} (h1 : Rd w k1 K) (h2 : Rd w v1 V) (h3 : Rd w k2 K) (h4 : Rd w v2 V) :
    Calls Tryd.prog 51 #[.agg #[k1, v1, .int .i64 n1], .agg #[k2, v2, .int .i64 n2]] w (Ans w (.bool true)) := by
  have H1 := hid h1
  have H2 := hid h2
  have H3 := hid h3
  have H4 := hid h4
  obtain ⟨a1, c1, rfl⟩ := zrd_form h1
  obtain ⟨a2, c2, rfl⟩ := zrd_form h2
  obtain ⟨a3, c3, rfl⟩ := zrd_form h3
  obtain ⟨a4, c4, rfl⟩ := zrd_form h4
  clear h1 h2 h3 h4
  go_enter Tryd.func51, Tryd.ntmps51
  go_upto_region 1 with fail
  have b1 := (Below.refl w.heap.size w).alloc (Nat.le_refl _) (.cells #[.slice a1 K.length c1, .slice a2 V.length c2, .int .i64 n1] 34)
  have z1 := heap_alloc_new w (.cells #[.slice a1 K.length c1, .slice a2 V.length c2, .int .i64 n1] 34)
  have s1 : (w.alloc (.cells #[.slice a1 K.length c1, .slice a2 V.length c2, .int .i64 n1] 34)).heap.size = w.heap.size + 1 := by simp
  generalize w.alloc (.cells #[.slice a1 K.length c1, .slice a2 V.length c2, .int .i64 n1] 34) = w1 at *
  have b2 := (Below.refl w1.heap.size w1).alloc (Nat.le_refl _) (.cells #[.slice a3 K.length c3, .slice a4 V.length c4, .int .i64 n2] 34)
  have z2 := heap_alloc_new w1 (.cells #[.slice a3 K.length c3, .slice a4 V.length c4, .int .i64 n2] 34)
  rw [s1] at z2
  generalize w1.alloc (.cells #[.slice a3 K.length c3, .slice a4 V.length c4, .int .i64 n2] 34) = w2 at *
  have z1' := (b2.block _ (lt_of_block z1)).trans z1
  have HB := hid (below_step b1 b2)
  have p0 := cell_in z1' 0 _ rfl
  have p1 := cell_in z1' 1 _ rfl
  have q0 := cell_in z2 0 _ rfl
  have q1 := cell_in z2 1 _ rfl
  clear z1 z1' z2 b1 b2 s1
  have CK := hid (zequal_any w2 (H1.out.old HB.out) (H3.out.old HB.out))
  have CV := hid (zequal_any w2 (H2.out.old HB.out) (H4.out.old HB.out))
  rw [beq_self_eq_true] at CK CV
  go_wp2_with (first
    | (go_at_call 64; refine CK.out.mono ?_; rintro en w3 ⟨rfl, rfl⟩)
    | (go_at_call 64; refine CV.out.mono ?_; rintro en w3 ⟨rfl, rfl⟩))
  go_ret
  exact ⟨rfl, HB.out⟩
end Go.Proofs.YtpdmocdfnakggaaDoor

set_option linter.unusedVariables false

set_option linter.unusedVariables false
set_option linter.unusedSimpArgs false
set_option maxRecDepth 100000

set_option linter.unusedVariables false
set_option linter.unusedSimpArgs false
set_option maxRecDepth 100000

set_option linter.unusedVariables false
set_option linter.unusedSimpArgs false
set_option maxRecDepth 100000

set_option linter.unusedVariables false
set_option linter.unusedSimpArgs false
set_option maxRecDepth 100000

set_option linter.unusedVariables false
set_option linter.unusedSimpArgs false
set_option maxRecDepth 100000

set_option linter.unusedVariables false
set_option linter.unusedSimpArgs false
set_option maxRecDepth 100000

set_option linter.unusedVariables false
set_option linter.unusedSimpArgs false
set_option maxRecDepth 100000

set_option linter.unusedVariables false
set_option linter.unusedSimpArgs false
set_option maxRecDepth 100000

set_option linter.unusedVariables false
set_option linter.unusedSimpArgs false
set_option maxRecDepth 100000

set_option linter.unusedVariables false
set_option linter.unusedSimpArgs false
set_option maxRecDepth 100000

set_option linter.unusedVariables false
set_option linter.unusedSimpArgs false
set_option maxRecDepth 100000

set_option linter.unusedVariables false
set_option linter.unusedSimpArgs false
set_option maxRecDepth 100000

set_option linter.unusedVariables false
set_option linter.unusedSimpArgs false
set_option maxRecDepth 100000

set_option linter.unusedVariables false
set_option linter.unusedSimpArgs false
namespace Go.Proofs.YtpdmocdfnakggaaDoor
open Go.RowKit Go.Deep

theorem info_int1 : (Tryd.prog.info? 3).map (fun i => (i.zero, i.size, i.bytes)) = some (some (.int .i64 0), 1, 8) := by kernel_rfl

set_option maxHeartbeats 4000000 in
set_option maxRecDepth 100000 in
theorem growI_any (n : Nat) (w : World) (hn : n ≤ 1000000) : Calls Tryd.prog 63 #[.slice none 0 0, .int .i64 (n : Int)] w (Room 3 1 w) := by
  obtain ⟨i0, hi, hz0, hz1, hz2⟩ := ccInfo (P := Tryd.prog) info_int1
  by_cases h0 : n = 0
  · subst h0
    go_enter Tryd.func63, Tryd.ntmps63
    go_wp2_with fail
    go_ret
    exact ⟨_, rfl, World.ownsRow_nil _ _ _ _, Below.refl _ _⟩
  · have hs1 := slice_to (P := Tryd.prog) 23 3 Tryd.underlying23 hi none 0 0 0 (Nat.le_refl _) .i64
    have happ := Lib.run_append_nil_zeros (P := Tryd.prog) w 23 3 23 3 i0 _ .i64 .i64 Tryd.underlying23 Tryd.underlying3 hi hz0 n (by omega) (by rw [hz1]; decide) (by omega) (by rw [hz2]; omega)
    have hcap : grownCap w n 0 3 ≤ maxLen := grownCap_le_maxLen w n 0 _ (by unfold maxLen; omega)
    have hcg := grownCap_ge w n 0 3
    have hs2 := slice_to (P := Tryd.prog) 23 3 Tryd.underlying23 hi (some ⟨w.heap.size, 0, none⟩) n (grownCap w n 0 3) 0 (Nat.zero_le _) .i64
    have hsz : (Builtin.zeroCells (Value.int .i64 0).cells n ++ Builtin.zeroCells (Value.int .i64 0).cells (grownCap w n 0 3 - n)).size = grownCap w n 0 3 * 1 := by
      rw [Array.size_append, zero_len, zero_len]
      show n * 1 + (grownCap w n 0 3 - n) * 1 = _
      omega
    have HOWN := hid (own_zeros (w := w) (e := 3) hsz hcap)
    have HB : Hid (Below w.heap.size w (w.drew.alloc (.cells (Builtin.zeroCells (Value.int .i64 0).cells n ++ Builtin.zeroCells (Value.int .i64 0).cells (grownCap w n 0 3 - n)) 3))) := (Below.drew (Below.refl _ w)).alloc (Nat.le_refl _) _
    generalize Builtin.zeroCells (Value.int .i64 0).cells n ++ Builtin.zeroCells (Value.int .i64 0).cells (grownCap w n 0 3 - n) = cs at *
    clear hsz hi hz0 hz1 hz2
    have hpos : (0 : Int) < (n : Int) := by omega
    go_enter Tryd.func63, Tryd.ntmps63
    go_wp2_with (at_builtin; refine Lib.wpList_append_run _ rfl _ _ _ _ rfl _ _ rfl rfl _ _ happ ?_)
    go_ret
    exact ⟨_, rfl, HOWN.out, HB.out⟩

/-- What stands in the first k lists, one behind the other. -/
def catK (YS : List (Value × List (List Value))) (k : Nat) : List (List Value) := ((YS.take k).map (·.2)).flatten
def catA (YS : List (Value × List (List Value))) : List (List Value) := (YS.map (·.2)).flatten

theorem catK_succ {YS : List (Value × List (List Value))} {k : Nat} {y : Value × List (List Value)} (h : YS[k]? = some y) : catK YS (k + 1) = catK YS k ++ y.2 := by
  unfold catK
  rw [List.take_add_one, h]
  show (((YS.take k) ++ [y]).map (·.2)).flatten = _
  rw [List.map_append, List.flatten_append]
  simp
theorem catK_all (YS : List (Value × List (List Value))) : catK YS YS.length = catA YS := by unfold catK catA; rw [List.take_length]
theorem catK_le (YS : List (Value × List (List Value))) (k : Nat) : (catK YS k).length ≤ (catA YS).length := by
  have : catA YS = catK YS k ++ ((YS.drop k).map (·.2)).flatten := by
    unfold catA catK
    rw [← List.flatten_append, ← List.map_append, List.take_append_drop]
  rw [this, List.length_append]; omega

/-- Lists in memory, and a list of them. -/
structure Cats (size : Nat) (w : World) (x : Value) (YS : List (Value × List (List Value))) : Prop where
  outer : Rws 1 w x (YS.map fun y => [y.1])
  each : ∀ y ∈ YS, Rws size w y.1 y.2

theorem Cats.old {size : Nat} {w w' : World} {x : Value} {YS : List (Value × List (List Value))} (h : Cats size w x YS) (hb : Below w.heap.size w w') : Cats size w' x YS := ⟨h.outer.old hb, fun y hy => (h.each y hy).old hb⟩

/-- What Concat gives. -/
def CatR (e : TypeId) (size : Nat) (L : List (List Value)) (w : World) (x : Ending) (w' : World) : Prop := ∃ v, x = .returned v ∧ w'.ownsRow w.heap.size e size v L.length L.flatten ∧ Below w.heap.size w w'

theorem own_step {w wr w1 : World} {e : TypeId} {size : Nat} {A B : List (List Value)} {x x' : Value} (hbb : Below w.heap.size w wr) (hown : wr.ownsRow w.heap.size e size x A.length A.flatten)
    (hown' : w1.ownsRow w.heap.size e size x' (A.length + B.length) (A.flatten ++ B.flatten)) (hg : wr.grownBy w1 x.ownBlock) :
    Hid (w1.ownsRow w.heap.size e size x' (A ++ B).length (A ++ B).flatten) ∧ Hid (Below w.heap.size w w1) := by
  refine ⟨?_, hbb.trans ((Below.refl w.heap.size wr).grown hg hbb.size (fun k hk => (hown.lt k hk).1))⟩
  show World.ownsRow _ _ _ _ _ _ _
  rw [List.flatten_append, List.length_append]
  exact hown'

set_option maxHeartbeats 8000000 in
set_option maxRecDepth 100000 in
theorem concatI_any (x : Value) (YS : List (Value × List (List Value))) (w : World) (hc : Cats 1 w x YS) (hl : (catA YS).length ≤ 100000) (hn : YS.length ≤ 100000) :
    Calls Tryd.prog 50 #[x] w (CatR 3 1 (catA YS) w) := by
  obtain ⟨ao, c, rfl, hc1, hc2⟩ := hc.outer.form
  rw [List.length_map] at *
  have HC := hid hc
  clear hc hc1 hc2
  go_enter Tryd.func50, Tryd.ntmps50
  go_wp2_with fail
  go_loop [3, 11] (fun s i => ∃ k : Nat, k ≤ YS.length ∧ i = .int .i64 k ∧ s = .int .i64 ((catK YS k).length : Int)) (fun _ i => YS.length - (intOf i).toNat)
  case atStart => exact ⟨0, by omega, rfl, rfl⟩
  case round =>
    obtain ⟨k, hk, rfl, rfl⟩ := hrel
    by_cases hlt : k < YS.length
    · have hv := List.getElem?_eq_getElem hlt
      generalize YS[k] = y at *
      obtain ⟨b, off, rfl, d1⟩ := HC.out.outer.get (by decide) (k := k) (r := [y.1]) (by rw [List.getElem?_map, hv]; rfl)
      have d1' := d1 0 _ rfl
      rw [Nat.mul_one, Nat.add_zero] at d1'
      obtain ⟨ya, yc, hy1, -, -⟩ := (HC.out.each y (List.mem_of_getElem? hv)).form
      rw [hy1] at d1'
      have hcs := catK_succ hv
      have hle := catK_le YS (k + 1)
      rw [hcs, List.length_append] at hle
      have hw : IntKind.i64.wrap (((catK YS k).length : Int) + (y.2.length : Int)) = (((catK YS (k + 1)).length : Nat) : Int) := by rw [hcs, List.length_append, IntKind.wrap_i64]; omega
      have hneg : ¬ (((catK YS (k + 1)).length : Int) < 0) := by omega
      clear d1 hy1 hv hcs
      go_wp2_with fail
      go_round
      case rel => exact ⟨k + 1, by omega, by go_num, rfl⟩
      case measure => simp [intOf]; omega
    · obtain rfl : k = YS.length := by omega
      rw [catK_all]
      have CG := growI_any (catA YS).length w (by omega)
      go_wp2_with (first | (go_at_call 63; refine CG.mono ?_))
      rintro e w1 ⟨v, rfl, ho, hb⟩
      have HO1 := hid ho
      have HB1 := hid hb
      clear ho hb CG
      go_wp2_with fail
      go_loopw [6, 27] (fun z i wr => ∃ k : Nat, k ≤ YS.length ∧ i = .int .i64 k ∧ Hid (wr.ownsRow w.heap.size 3 1 z (catK YS k).length (catK YS k).flatten) ∧ Hid (Below w.heap.size w wr)) (fun _ i _ => YS.length - (intOf i).toNat)
      case atStart => exact ⟨0, by omega, rfl, HO1, HB1⟩
      case round =>
        obtain ⟨k, hk, rfl, HO, HB⟩ := hrel
        by_cases hlt : k < YS.length
        · have hv := List.getElem?_eq_getElem hlt
          generalize YS[k] = y at *
          have HCr := hid (HC.out.old HB.out)
          obtain ⟨b, off, rfl, d1⟩ := HCr.out.outer.get (by decide) (k := k) (r := [y.1]) (by rw [List.getElem?_map, hv]; rfl)
          have d1' := d1 0 _ rfl
          rw [Nat.mul_one, Nat.add_zero] at d1'
          have hyr := HCr.out.each y (List.mem_of_getElem? hv)
          obtain ⟨ya, yc, hy1, -, -⟩ := hyr.form
          rw [hy1] at d1' hyr
          have HY := hid hyr
          have HCS := hid (catK_succ hv)
          have hle := catK_le YS (k + 1)
          rw [HCS.out, List.length_append] at hle
          clear d1 hy1 hv hyr
          go_wp2_with (first
            | (at_builtin; refine wp_rapp rfl _ _ 23 rfl w.heap.size 1 8 3 Tryd.underlying23 _ info_int1 (by decide) (by decide) _ _ _ rfl HO.out _ y.2 rfl HY.out ?c1 ?c2 ?c3 ?_))
          case c1 => omega
          case c2 => unfold maxLen; omega
          case c3 => exact HB.out.size
          intro x4 w4 o4 g4
          obtain ⟨q1, q2⟩ := own_step HB.out HO.out o4 g4
          clear o4 g4
          go_wp2_with fail
          go_roundw
          case rel => exact ⟨k + 1, by omega, by go_num, by rw [HCS.out]; exact q1, q2⟩
          case measure => simp [intOf]; omega
        · obtain rfl : k = YS.length := by omega
          go_wp2_with fail
          go_ret
          have := HO.out
          rw [catK_all] at this
          exact ⟨_, rfl, this, HB.out⟩

set_option maxHeartbeats 4000000 in
set_option maxRecDepth 100000 in
theorem growV_any (n : Nat) (w : World) (hn : n ≤ 1000000) : Calls Tryd.prog 78 #[.slice none 0 0, .int .i64 (n : Int)] w (Room 44 3 w) := by
  obtain ⟨i0, hi, hz0, hz1, hz2⟩ := ccInfo (P := Tryd.prog) info_val
  by_cases h0 : n = 0
  · subst h0
    go_enter Tryd.func78, Tryd.ntmps78
    go_wp2_with fail
    go_ret
    exact ⟨_, rfl, World.ownsRow_nil _ _ _ _, Below.refl _ _⟩
  · have hs1 := slice_to (P := Tryd.prog) 28 44 Tryd.underlying28 hi none 0 0 0 (Nat.le_refl _) .i64
    have happ := Lib.run_append_nil_zeros (P := Tryd.prog) w 28 3 28 44 i0 _ .i64 .i64 Tryd.underlying28 Tryd.underlying3 hi hz0 n (by omega) (by rw [hz1]; decide) (by omega) (by rw [hz2]; omega)
    have hcap : grownCap w n 0 44 ≤ maxLen := grownCap_le_maxLen w n 0 _ (by unfold maxLen; omega)
    have hcg := grownCap_ge w n 0 44
    have hs2 := slice_to (P := Tryd.prog) 28 44 Tryd.underlying28 hi (some ⟨w.heap.size, 0, none⟩) n (grownCap w n 0 44) 0 (Nat.zero_le _) .i64
    have hsz : (Builtin.zeroCells (Value.agg #[.int .i64 0, .int .i64 0, .string ⟨#[]⟩]).cells n ++ Builtin.zeroCells (Value.agg #[.int .i64 0, .int .i64 0, .string ⟨#[]⟩]).cells (grownCap w n 0 44 - n)).size = grownCap w n 0 44 * 3 := by
      rw [Array.size_append, zero_len, zero_len]
      show n * 3 + (grownCap w n 0 44 - n) * 3 = _
      omega
    have HOWN := hid (own_zeros (w := w) (e := 44) hsz hcap)
    have HB : Hid (Below w.heap.size w (w.drew.alloc (.cells (Builtin.zeroCells (Value.agg #[.int .i64 0, .int .i64 0, .string ⟨#[]⟩]).cells n ++ Builtin.zeroCells (Value.agg #[.int .i64 0, .int .i64 0, .string ⟨#[]⟩]).cells (grownCap w n 0 44 - n)) 44))) := (Below.drew (Below.refl _ w)).alloc (Nat.le_refl _) _
    generalize Builtin.zeroCells (Value.agg #[.int .i64 0, .int .i64 0, .string ⟨#[]⟩]).cells n ++ Builtin.zeroCells (Value.agg #[.int .i64 0, .int .i64 0, .string ⟨#[]⟩]).cells (grownCap w n 0 44 - n) = cs at *
    clear hsz hi hz0 hz1 hz2
    have hpos : (0 : Int) < (n : Int) := by omega
    go_enter Tryd.func78, Tryd.ntmps78
    go_wp2_with (at_builtin; refine Lib.wpList_append_run _ rfl _ _ _ _ rfl _ _ rfl rfl _ _ happ ?_)
    go_ret
    exact ⟨_, rfl, HOWN.out, HB.out⟩

set_option maxHeartbeats 8000000 in
set_option maxRecDepth 100000 in
theorem concatV_any (x : Value) (YS : List (Value × List (List Value))) (w : World) (hc : Cats 3 w x YS) (hl : (catA YS).length ≤ 100000) (hn : YS.length ≤ 100000) :
    Calls Tryd.prog 62 #[x] w (CatR 44 3 (catA YS) w) := by
  obtain ⟨ao, c, rfl, hc1, hc2⟩ := hc.outer.form
  rw [List.length_map] at *
  have HC := hid hc
  clear hc hc1 hc2
  go_enter Tryd.func62, Tryd.ntmps62
  go_wp2_with fail
  go_loop [3, 11] (fun s i => ∃ k : Nat, k ≤ YS.length ∧ i = .int .i64 k ∧ s = .int .i64 ((catK YS k).length : Int)) (fun _ i => YS.length - (intOf i).toNat)
  case atStart => exact ⟨0, by omega, rfl, rfl⟩
  case round =>
    obtain ⟨k, hk, rfl, rfl⟩ := hrel
    by_cases hlt : k < YS.length
    · have hv := List.getElem?_eq_getElem hlt
      generalize YS[k] = y at *
      obtain ⟨b, off, rfl, d1⟩ := HC.out.outer.get (by decide) (k := k) (r := [y.1]) (by rw [List.getElem?_map, hv]; rfl)
      have d1' := d1 0 _ rfl
      rw [Nat.mul_one, Nat.add_zero] at d1'
      obtain ⟨ya, yc, hy1, -, -⟩ := (HC.out.each y (List.mem_of_getElem? hv)).form
      rw [hy1] at d1'
      have hcs := catK_succ hv
      have hle := catK_le YS (k + 1)
      rw [hcs, List.length_append] at hle
      have hw : IntKind.i64.wrap (((catK YS k).length : Int) + (y.2.length : Int)) = (((catK YS (k + 1)).length : Nat) : Int) := by rw [hcs, List.length_append, IntKind.wrap_i64]; omega
      have hneg : ¬ (((catK YS (k + 1)).length : Int) < 0) := by omega
      clear d1 hy1 hv hcs
      go_wp2_with fail
      go_round
      case rel => exact ⟨k + 1, by omega, by go_num, rfl⟩
      case measure => simp [intOf]; omega
    · obtain rfl : k = YS.length := by omega
      rw [catK_all]
      have CG := growV_any (catA YS).length w (by omega)
      go_wp2_with (first | (go_at_call 78; refine CG.mono ?_))
      rintro e w1 ⟨v, rfl, ho, hb⟩
      have HO1 := hid ho
      have HB1 := hid hb
      clear ho hb CG
      go_wp2_with fail
      go_loopw [6, 27] (fun z i wr => ∃ k : Nat, k ≤ YS.length ∧ i = .int .i64 k ∧ Hid (wr.ownsRow w.heap.size 44 3 z (catK YS k).length (catK YS k).flatten) ∧ Hid (Below w.heap.size w wr)) (fun _ i _ => YS.length - (intOf i).toNat)
      case atStart => exact ⟨0, by omega, rfl, HO1, HB1⟩
      case round =>
        obtain ⟨k, hk, rfl, HO, HB⟩ := hrel
        by_cases hlt : k < YS.length
        · have hv := List.getElem?_eq_getElem hlt
          generalize YS[k] = y at *
          have HCr := hid (HC.out.old HB.out)
          obtain ⟨b, off, rfl, d1⟩ := HCr.out.outer.get (by decide) (k := k) (r := [y.1]) (by rw [List.getElem?_map, hv]; rfl)
          have d1' := d1 0 _ rfl
          rw [Nat.mul_one, Nat.add_zero] at d1'
          have hyr := HCr.out.each y (List.mem_of_getElem? hv)
          obtain ⟨ya, yc, hy1, -, -⟩ := hyr.form
          rw [hy1] at d1' hyr
          have HY := hid hyr
          have HCS := hid (catK_succ hv)
          have hle := catK_le YS (k + 1)
          rw [HCS.out, List.length_append] at hle
          clear d1 hy1 hv hyr
          go_wp2_with (first
            | (at_builtin; refine wp_rapp rfl _ _ 28 rfl w.heap.size 3 32 44 Tryd.underlying28 _ info_val (by decide) (by decide) _ _ _ rfl HO.out _ y.2 rfl HY.out ?c1 ?c2 ?c3 ?_))
          case c1 => omega
          case c2 => unfold maxLen; omega
          case c3 => exact HB.out.size
          intro x4 w4 o4 g4
          obtain ⟨q1, q2⟩ := own_step HB.out HO.out o4 g4
          clear o4 g4
          go_wp2_with fail
          go_roundw
          case rel => exact ⟨k + 1, by omega, by go_num, by rw [HCS.out]; exact q1, q2⟩
          case measure => simp [intOf]; omega
        · obtain rfl : k = YS.length := by omega
          go_wp2_with fail
          go_ret
          have := HO.out
          rw [catK_all] at this
          exact ⟨_, rfl, this, HB.out⟩
end Go.Proofs.YtpdmocdfnakggaaDoor

set_option linter.unusedVariables false
set_option linter.unusedSimpArgs false
set_option maxRecDepth 100000
namespace Go.Proofs.YtpdmocdfnakggaaDoor
open Go.RowKit Go.Deep

theorem vRow_wide (l : List Vl) : Wide 3 (l.map cellsV) := fun r hr => by
  obtain ⟨v, -, rfl⟩ := List.mem_map.1 hr
  exact ⟨rfl, fun u hu => by simp [cellsV] at hu; rcases hu with rfl | rfl | rfl <;> rfl⟩
theorem vRow_flat (l : List Vl) : (l.map cellsV).flatten = cellsL l := by unfold cellsL; rw [List.flatMap_def]
theorem vs_rws {w : World} {x : Value} {l : List Vl} (h : Vs w x l) : Rws 3 w x (l.map cellsV) := by
  obtain ⟨ao, c, rfl, h1, h2, h3, h4⟩ := h
  refine ⟨ao, c, by rw [List.length_map], by rw [List.length_map]; exact h1, h2, h3, vRow_wide l, fun a ha j u hu => ?_⟩
  rw [vRow_flat] at hu
  exact h4 a ha j u hu
theorem two_lit {w : World} {g : Nat} {u1 u2 : Value} {t : TypeId} (h : w.heap[g]? = some (.cells #[u1, u2] t (0, 0))) (h1 : u1.oneCell' = true) (h2 : u2.oneCell' = true) : Rws 1 w (.slice (some ⟨g, 0, none⟩) 2 2) [[u1], [u2]] := by
  refine ⟨some ⟨g, 0, none⟩, 2, rfl, by simp, by unfold maxLen; omega, (fun e => by cases e), (fun r hr => ?_), fun a ha j u hu => ?_⟩
  · simp at hr
    rcases hr with rfl | rfl
    · exact ⟨rfl, fun u hu => by simp at hu; subst hu; exact h1⟩
    · exact ⟨rfl, fun u hu => by simp at hu; subst hu; exact h2⟩
  · cases ha
    rw [WideShapes.add_plain, Nat.zero_add]
    match j, hu with
    | 0, hu => simp at hu; subst hu; exact cell_in h 0 _ rfl
    | 1, hu => simp at hu; subst hu; exact cell_in h 1 _ rfl
    | j + 2, hu => simp at hu

theorem catV2_any {w : World} {a1 a2 : Option Addr} {c1 c2 : Nat} {l1 l2 : List Vl} (h1 : Vs w (.slice a1 l1.length c1) l1) (h2 : Vs w (.slice a2 l2.length c2) l2) (hl : l1.length + l2.length ≤ 1000) :
    Calls Tryd.prog 62 #[.slice (some ⟨w.heap.size, 0, none⟩) 2 2] (w.alloc (.cells #[.slice a1 l1.length c1, .slice a2 l2.length c2] 28))
      (fun e w' => ∃ v, e = .returned v ∧ w'.ownsRow w.heap.size 44 3 v (l1 ++ l2).length (cellsL (l1 ++ l2)) ∧ Below w.heap.size w w') := by
  have ha := (Below.refl w.heap.size w).alloc (Nat.le_refl _) (.cells #[.slice a1 l1.length c1, .slice a2 l2.length c2] 28)
  have ho := two_lit (heap_alloc_new w (.cells #[.slice a1 l1.length c1, .slice a2 l2.length c2] 28)) rfl rfl
  have hc : Cats 3 (w.alloc (.cells #[.slice a1 l1.length c1, .slice a2 l2.length c2] 28)) (.slice (some ⟨w.heap.size, 0, none⟩) 2 2) [(.slice a1 l1.length c1, l1.map cellsV), (.slice a2 l2.length c2, l2.map cellsV)] := ⟨ho, fun y hy => by
    simp at hy
    rcases hy with rfl | rfl
    · exact (vs_rws h1).old ha
    · exact (vs_rws h2).old ha⟩
  have he : catA [((.slice a1 l1.length c1 : Value), l1.map cellsV), (.slice a2 l2.length c2, l2.map cellsV)] = (l1 ++ l2).map cellsV := by simp [catA]
  refine (concatV_any _ _ _ hc (by rw [he, List.length_map, List.length_append]; omega) (by simp)).mono ?_
  rintro e w' ⟨v, rfl, hv, hb⟩
  rw [he, vRow_flat, List.length_map] at hv
  exact ⟨v, rfl, ownsRow_base hv ha.size, below_step ha hb⟩

theorem zRow_flat (l : List Int) : Wide 1 (l.map zRow) := fun r hr => by
  obtain ⟨v, -, rfl⟩ := List.mem_map.1 hr
  exact ⟨rfl, fun u hu => by simp [zRow] at hu; subst hu; rfl⟩
theorem catI2_any {w : World} {a1 a2 : Option Addr} {c1 c2 : Nat} {l1 l2 : List Int} (h1 : Rws 1 w (.slice a1 l1.length c1) (l1.map zRow)) (h2 : Rws 1 w (.slice a2 l2.length c2) (l2.map zRow)) (hl : l1.length + l2.length ≤ 1000) :
    Calls Tryd.prog 50 #[.slice (some ⟨w.heap.size, 0, none⟩) 2 2] (w.alloc (.cells #[.slice a1 l1.length c1, .slice a2 l2.length c2] 23))
      (fun e w' => ∃ v, e = .returned v ∧ Rws 1 w' v ((l1 ++ l2).map zRow) ∧ Below w.heap.size w w') := by
  have ha := (Below.refl w.heap.size w).alloc (Nat.le_refl _) (.cells #[.slice a1 l1.length c1, .slice a2 l2.length c2] 23)
  have ho := two_lit (heap_alloc_new w (.cells #[.slice a1 l1.length c1, .slice a2 l2.length c2] 23)) rfl rfl
  have hc : Cats 1 (w.alloc (.cells #[.slice a1 l1.length c1, .slice a2 l2.length c2] 23)) (.slice (some ⟨w.heap.size, 0, none⟩) 2 2) [(.slice a1 l1.length c1, l1.map zRow), (.slice a2 l2.length c2, l2.map zRow)] := ⟨ho, fun y hy => by
    simp at hy
    rcases hy with rfl | rfl
    · exact h1.old ha
    · exact h2.old ha⟩
  have he : catA [((.slice a1 l1.length c1 : Value), l1.map zRow), (.slice a2 l2.length c2, l2.map zRow)] = (l1 ++ l2).map zRow := by simp [catA]
  refine (concatI_any _ _ _ hc (by rw [he, List.length_map, List.length_append]; omega) (by simp)).mono ?_
  rintro e w' ⟨v, rfl, hv, hb⟩
  rw [he] at hv
  exact ⟨v, rfl, Rws.own hv (zRow_flat _), below_step ha hb⟩

set_option maxHeartbeats 4000000 in
theorem pairOf_ok {N : Nat → Prop} {w : World} {cs : List Value} {T : Tab} {X : Idx} {x : Value} {r : List Vl} (h : TabN N w cs T) (hti : TiOk T X) (hcl : T.cols.length ≤ 6) (hx : Vs w x r) (hr : RwOk T r) :
    Calls Tryd.prog 29 #[.agg cs.toArray, x] w (fun e w' => ∃ a1 c1 a2 n2 c2, e = .returned (.tuple #[.agg #[.slice a1 (nameL T (pickL r T.key)).length c1, .slice a2 n2 c2, .int .i64 0], .nilIface]) ∧ w'.ownsRow w.heap.size 5 1 (.slice a1 (nameL T (pickL r T.key)).length c1) (nameL T (pickL r T.key)).length ((nameL T (pickL r T.key)).map bv) ∧ Below w.heap.size w w') := by
  have H0 := hid h
  have HX := hid hx
  have HT := hid hti
  have HR := hid hr
  obtain ⟨a1, e1, a3, e3, rfl⟩ := tab_form h
  obtain ⟨a2, e2, rfl, hm⟩ := hx.form
  clear hx hti hr h
  have HRL : Hid (r.length ≤ 16) := hid (by rw [HR.out.ok.1]; omega)
  have HKO := hid (key_ok HR.out.ok HT.out.key HT.out.non)
  have HOK : Hid (OkL r) := hid (fun v hv => by
    obtain ⟨i, hi⟩ := List.getElem?_of_mem hv
    have h3 := (List.getElem?_eq_some_iff.1 hi).1
    exact ⟨(HR.out.ok.2 i _ v (List.getElem?_eq_getElem (by rw [← HR.out.ok.1]; exact h3)) hi).1, HR.out.inn v hv⟩)
  have HPJ := hid (pick_okl HR.out HT.out.key)
  have CW := fun (s : ByteArray) W => wrap_nil s W
  go_enter Tryd.func29, Tryd.ntmps29
  go_upto_region 1 with fail
  have hb := (Below.refl w.heap.size w).alloc (Nat.le_refl _) (.cells #[.int .i64 T.id, .string ⟨T.name.toArray⟩, .slice a1 T.cols.length e1, .slice a3 T.key.length e3] 25)
  have hz := heap_alloc_new w (.cells #[.int .i64 T.id, .string ⟨T.name.toArray⟩, .slice a1 T.cols.length e1, .slice a3 T.key.length e3] 25)
  have hs : (w.alloc (.cells #[.int .i64 T.id, .string ⟨T.name.toArray⟩, .slice a1 T.cols.length e1, .slice a3 T.key.length e3] 25)).heap.size = w.heap.size + 1 := by simp
  generalize w.alloc (.cells #[.int .i64 T.id, .string ⟨T.name.toArray⟩, .slice a1 T.cols.length e1, .slice a3 T.key.length e3] 25) = w1 at *
  have hb3 := (Below.refl w1.heap.size w1).alloc (Nat.le_refl _) (.cells #[.slice none 0 0, .slice none 0 0, .int .i64 0] 34)
  have hp3 := heap_alloc_new w1 (.cells #[.slice none 0 0, .slice none 0 0, .int .i64 0] 34)
  generalize w1.alloc (.cells #[.slice none 0 0, .slice none 0 0, .int .i64 0] 34) = w3 at *
  have HZ := hid ((hb3.block _ (lt_of_block hz)).trans hz)
  rw [hs] at hp3
  have HP := hid hp3
  have HB := hid (below_step hb hb3)
  clear hb hb3 hz hp3 hs
  have z0 := cell_in HZ.out 0 _ rfl
  have z1 := cell_in HZ.out 1 _ rfl
  have z2 := cell_in HZ.out 2 _ rfl
  have z3 := cell_in HZ.out 3 _ rfl
  have CK := hid (keyOf_ok (H0.out.old HB.out) HT.out.key (by have := HT.out.keyl; omega) (HX.out.old HB.out) HR.out.ok)
  go_upto_region 4 with (first
    | (go_at_call 28; refine CK.out.mono ?_; rintro en w4 ⟨v4, rfl, ho4, hb4⟩; have HB4 := hid (below_step HB.out hb4); have HK4 : Hid (Vs w4 v4 (pickL r T.key)) := hid (Vs.own (by rw [pickL_len]; exact ho4)); have HZ4 := hid ((hb4.block _ (lt_of_block HZ.out)).trans HZ.out); have HP4 := hid ((hb4.block _ (lt_of_block HP.out)).trans HP.out); clear z0 z1 z2 z3 ho4 hb4 CK HZ HP))
  have z0 := cell_in HZ4.out 0 _ rfl
  have z1 := cell_in HZ4.out 1 _ rfl
  have z2 := cell_in HZ4.out 2 _ rfl
  have z3 := cell_in HZ4.out 3 _ rfl
  have CN := hid (nameOf_ok (H0.out.old HB4.out) HT.out.tid HT.out.key (by have := HT.out.keyl; omega) HK4.out HPJ.out.inn HKO.out)
  go_upto_region 7 with (first
    | (go_at_call 27; refine CN.out.mono ?_; rintro en w5 ⟨v5, rfl, ho5, hb5⟩; have HB5 := hid (below_step HB4.out hb5); have HO5 := hid (ownsRow_base ho5 (show w.heap.size + 2 ≤ w4.heap.size by have := lt_of_block HP4.out; omega)); have HP5 := hid ((hb5.block _ (lt_of_block HP4.out)).trans HP4.out); clear z0 z1 z2 z3 ho5 hb5 CN HZ4 HP4))
  have CB := hid (behind_ok (w := w5) (Rd.nil w5) (HX.out.old HB5.out) HOK.out.inn HOK.out.ok HRL.out (by simp))
  go_upto_region 10 with (first
    | (go_at_call 47; refine CB.out.mono ?_; rintro en w6 ⟨v6, rfl, ho6, hb6⟩; have HB6 := hid (below_step HB5.out hb6); have HO6 := hid (own_old HO5.out hb6); have HV6 := hid ho6; have HP6 := hid ((hb6.block _ (lt_of_block HP5.out)).trans HP5.out); clear ho6 hb6 CB HP5 HO5))
  rw [List.nil_append] at HV6
  obtain ⟨LA, hLA⟩ : ∃ LA, LA = nameL T (pickL r T.key) := ⟨_, rfl⟩
  rw [← hLA] at HO6
  have HLA := hid hLA
  clear hLA
  obtain ⟨a6, c6, rfl, -⟩ := zown_rd HV6.out
  obtain ⟨a5, c5, rfl, -⟩ := zown_rd HO6.out
  generalize encL r = LB at *
  have u0 := cell_in HP6.out 0 _ rfl
  have u0f := free_in HP6.out 0
  have u1 := cell_in HP6.out 1 _ rfl
  have u1f := free_in HP6.out 1
  have u2 := cell_in HP6.out 2 _ rfl
  have u2f := free_in HP6.out 2
  go_wp2_with fail
  obtain ⟨g1, g2⟩ := put3 HP6.out (.slice a5 LA.length c5) (.slice a6 LB.length c6) (.int .i64 0)
  generalize ((w6.setCell ⟨w.heap.size + 1, 0, none⟩ (.slice a5 LA.length c5)).setCell ⟨w.heap.size + 1, 1, none⟩ (.slice a6 LB.length c6)).setCell ⟨w.heap.size + 1, 2, none⟩ (.int .i64 0) = s9 at *
  refine bodyPost_ret (results_cell2 rfl _ _ (w.heap.size + 1) 34 _ (0, 0) _ rfl g1 Tryd.underlying34 rfl (by kernel_rfl)) rfl ?_
  have e1 := own_keep HO6.out g2 (fun k hk e => by have e8 : k = w.heap.size + 1 := e; have := (HO6.out.lt k hk).1; omega)
  rw [HLA.out] at e1 ⊢
  exact ⟨_, _, _, _, _, rfl, ownsRow_base e1 (by omega), HB6.out.trans (g2.below HB6.out.size (fun k e => by have e8 : k = w.heap.size + 1 := e; omega))⟩
end Go.Proofs.YtpdmocdfnakggaaDoor

set_option linter.unusedVariables false
set_option linter.unusedSimpArgs false
set_option maxRecDepth 100000
namespace Go.Proofs.YtpdmocdfnakggaaDoor
open Go.RowKit Go.Deep

def zeroR (T : Tab) : List Vl := T.cols.map (fun c => ⟨c.kind, 0, []⟩)
def rowMix (Z r : List Vl) (L : List Int) : List Vl := (List.range Z.length).map (fun (j : Nat) => if L.contains ((j : Nat) : Int) then r.getD j ⟨0, 0, []⟩ else Z.getD j ⟨0, 0, []⟩)
theorem rowMix_len (Z r : List Vl) (L : List Int) : (rowMix Z r L).length = Z.length := by unfold rowMix; simp
theorem rowMix_nil (Z r : List Vl) : rowMix Z r [] = Z := by
  refine List.ext_getElem (rowMix_len _ _ _) (fun i h1 h2 => ?_)
  unfold rowMix
  simp [List.getD_eq_getElem?_getD, List.getElem?_eq_getElem h2]
theorem rowMix_step {Z r : List Vl} {L : List Int} {k m : Nat} {v : Vl} (hk : L[k]? = some (m : Int)) (hv : r[m]? = some v) : (rowMix Z r (L.take k)).set m v = rowMix Z r (L.take (k + 1)) := by
  have e0 : L.take (k + 1) = L.take k ++ [(m : Int)] := by rw [List.take_add_one, hk]; rfl
  rw [e0]
  refine List.ext_getElem (by rw [List.length_set, rowMix_len, rowMix_len]) (fun i h1 h2 => ?_)
  rw [List.getElem_set]
  unfold rowMix
  simp only [List.getElem_map, List.getElem_range, List.contains_eq_mem, List.mem_append, List.mem_singleton]
  by_cases e : m = i
  · subst e
    simp [List.getD_eq_getElem?_getD, hv]
  · have e2 : ¬ (i : Int) = (m : Int) := by omega
    simp [e, e2]
theorem cellsL_cons (u : Vl) (l : List Vl) : cellsL (u :: l) = .int .i64 u.k :: .int .i64 u.i :: .string ⟨u.s.toArray⟩ :: cellsL l := rfl
theorem set3_cells : ∀ (l : List Vl) (m : Nat) (v : Vl), m < l.length → (((cellsL l).set (m * 3) (.int .i64 v.k)).set (m * 3 + 1) (.int .i64 v.i)).set (m * 3 + 2) (.string ⟨v.s.toArray⟩) = cellsL (l.set m v)
  | [], _, _, h => by simp at h
  | u :: l, 0, v, _ => rfl
  | u :: l, m + 1, v, h => by
    have ih := set3_cells l m v (by simpa using h)
    rw [List.set_cons_succ, cellsL_cons, cellsL_cons, ← ih, show (m + 1) * 3 = m * 3 + 1 + 1 + 1 by omega]
    rfl

set_option maxHeartbeats 8000000 in
theorem rowWith_ok {N : Nat → Prop} {w : World} {cs : List Value} {T : Tab} {y x : Value} {L : List Int} {r : List Vl} (h : TabN N w cs T) (hy : Rws 1 w y (L.map zRow)) (hx : Vs w x (pickL r L)) (hp : PlOk L T.cols.length) (hl : L.length ≤ 1000) (hrl : r.length = T.cols.length) (hc0 : 1 ≤ T.cols.length) (hc6 : T.cols.length ≤ 6) :
    Calls Tryd.prog 49 #[.agg cs.toArray, y, x] w (fun e w' => ∃ a c, e = .returned (.tuple #[.slice a T.cols.length c, .nilIface]) ∧ Vs w' (.slice a T.cols.length c) (rowMix (zeroR T) r L) ∧ Below w.heap.size w w') := by
  obtain ⟨x2, y2, rfl, ⟨hx2, -⟩, ⟨hy2, -⟩, -, -⟩ := h
  obtain ⟨a1, e1, rfl, p1, p2, pc⟩ := cl_cells hx2
  obtain ⟨a3, e3, rfl, -, -, -⟩ := zs_cells hy2
  obtain ⟨a4, e4, rfl, q1, q2, qc⟩ := zs_cells hy
  obtain ⟨a2, e2, rfl, hm⟩ := hx.form
  rw [pickL_len] at hx hm ⊢
  have HC := hid pc
  have HQ := hid qc
  have HX := hid hx
  have HP := hid hp
  have HRL := hid hrl
  clear hx2 hy2 pc qc hy hx hp hrl p2 q2 hm
  go_enter Tryd.func49, Tryd.ntmps49
  go_upto_region 1 with fail
  have hb := (Below.refl w.heap.size w).alloc (Nat.le_refl _) (.cells #[.int .i64 T.id, .string ⟨T.name.toArray⟩, .slice a1 T.cols.length e1, .slice a3 T.key.length e3] 25)
  have hz := heap_alloc_new w (.cells #[.int .i64 T.id, .string ⟨T.name.toArray⟩, .slice a1 T.cols.length e1, .slice a3 T.key.length e3] 25)
  generalize w.alloc (.cells #[.int .i64 T.id, .string ⟨T.name.toArray⟩, .slice a1 T.cols.length e1, .slice a3 T.key.length e3] 25) = w1 at *
  have HB := hid hb
  have z2 := cell_in hz 2 _ rfl
  clear hb hz
  go_wp2_with fail
  go_loopw [8, 22] (fun o j wr => ∃ k : Nat, k ≤ T.cols.length ∧ j = .int .i64 (k : Int) ∧ Hid (wr.ownsRow w.heap.size 44 3 o k (cellsL ((zeroR T).take k))) ∧ Hid (Below w.heap.size w wr))
    (fun _ j _ => T.cols.length - (intOf j).toNat)
  case atStart => exact ⟨0, by omega, rfl, World.ownsRow_nil _ _ _ _, HB.out⟩
  case round =>
    obtain ⟨k, hk, rfl, HO, HBr⟩ := hrel
    by_cases hlt : k < T.cols.length
    · obtain ⟨c, hc⟩ : ∃ c, T.cols[k]? = some c := ⟨_, List.getElem?_eq_getElem hlt⟩
      obtain ⟨b, off, rfl, c0, c1, c2⟩ := HC.out k c hc
      have hki : (k : Int) < (T.cols.length : Int) := by omega
      have k0 := (HBr.out.cell (block_cell c0)).trans c0
      have k1 := (HBr.out.cell (block_cell c1)).trans c1
      have k2 := (HBr.out.cell (block_cell c2)).trans c2
      have HT : Hid ((zeroR T).take (k + 1) = (zeroR T).take k ++ [⟨c.kind, 0, []⟩]) := hid (by
        have h0 : (zeroR T)[k]? = some ⟨c.kind, 0, []⟩ := by unfold zeroR; rw [List.getElem?_map, hc]; rfl
        rw [List.take_add_one, h0]; rfl)
      clear c0 c1 c2 hc z2
      go_upto_region 7 with fail
      have hb3 := HBr.out.alloc HBr.out.size (.cells #[.string ⟨c.name.toArray⟩, .int .i64 c.kind, .bool c.null] 58)
      have hz3 := heap_alloc_new wr (.cells #[.string ⟨c.name.toArray⟩, .int .i64 c.kind, .bool c.null] 58)
      have HO3 := hid (HO.out.alloc (.cells #[.string ⟨c.name.toArray⟩, .int .i64 c.kind, .bool c.null] 58))
      generalize wr.alloc (.cells #[.string ⟨c.name.toArray⟩, .int .i64 c.kind, .bool c.null] 58) = w3 at *
      have HB3 := hid hb3
      have z1 := cell_in hz3 1 _ rfl
      clear hb3 hz3 k0 k1 k2
      have HAO := hid (HO3.out.alloc (.cells #[.int .i64 c.kind, .int .i64 0, .string ⟨#[]⟩] 44))
      have HV1 := hid (Vs.one (v := ⟨c.kind, 0, []⟩) (t := 44) (heap_alloc_new w3 (.cells #[.int .i64 c.kind, .int .i64 0, .string ⟨#[]⟩] 44)))
      go_wp2_with (first
        | (at_builtin; refine wp_vapp rfl _ _ 28 rfl w.heap.size 44 Tryd.underlying28 _ info_val (by decide) _ _ _ rfl HAO.out _ [⟨c.kind, 0, []⟩] rfl HV1.out ?c1 ?c2 ?_))
      case c1 => show k + 1 ≤ 1000000; omega
      case c2 => exact (HB3.out.alloc HB3.out.size _).size
      intro x4 w4 o4 g4
      have HB4 := hid (HB3.out.trans (vown_below HO3.out HB3.out.size g4))
      have HO4 : Hid (w4.ownsRow w.heap.size 44 3 x4 (k + 1) (cellsL ((zeroR T).take (k + 1)))) := hid (by rw [HT.out, cellsL_app]; exact o4)
      clear o4 g4
      go_wp2_with fail
      go_roundw
      case rel => exact ⟨k + 1, by omega, by go_num, HO4, HB4⟩
      case measure => simp [intOf]; omega
    · obtain rfl : k = T.cols.length := by omega
      rw [List.take_of_length_le (show (zeroR T).length ≤ T.cols.length by unfold zeroR; rw [List.length_map]; exact Nat.le_refl _)] at HO
      obtain ⟨g, cap, rfl, hg1, hg2⟩ := HO.out.form (by omega)
      have HO2 : Hid (wr.ownsRow w.heap.size 44 3 (.slice (some ⟨g, 0, none⟩) T.cols.length cap) T.cols.length (cellsL (rowMix (zeroR T) r (L.take 0)))) := hid (by rw [List.take_zero, rowMix_nil]; exact HO.out)
      have HZL : Hid ((zeroR T).length = T.cols.length) := hid (by unfold zeroR; rw [List.length_map])
      have HB0 := hid HBr.out
      clear HO hlt z2 HBr
      go_wp2_with fail
      generalize wr = wq at *
      go_loopw [35] (fun j wr => ∃ k : Nat, k ≤ L.length ∧ j = .int .i64 (k : Int) ∧ Hid (wr.ownsRow w.heap.size 44 3 (.slice (some ⟨g, 0, none⟩) T.cols.length cap) T.cols.length (cellsL (rowMix (zeroR T) r (L.take k)))) ∧ Hid (Below w.heap.size w wr))
        (fun j _ => L.length - (intOf j).toNat)
      case atStart => exact ⟨0, by omega, rfl, HO2, HB0⟩
      case round =>
        obtain ⟨k, hk2, rfl, HO, HB9⟩ := hrel
        by_cases hlt : k < L.length
        · obtain ⟨z, hz⟩ : ∃ z, L[k]? = some z := ⟨_, List.getElem?_eq_getElem hlt⟩
          obtain ⟨hz1, hz2⟩ := HP.out z (List.mem_of_getElem? hz)
          obtain ⟨m, rfl⟩ : ∃ m : Nat, z = (m : Int) := ⟨z.toNat, by omega⟩
          have hmr : m < r.length := by have := HRL.out; omega
          obtain ⟨v, hv⟩ : ∃ v, r[m]? = some v := ⟨_, List.getElem?_eq_getElem hmr⟩
          have hpv : (pickL r L)[k]? = some v := by
            unfold pickL
            rw [List.getElem?_map, hz]
            simp [List.getD_eq_getElem?_getD, hv]
          obtain ⟨b, off, rfl, c0⟩ := HQ.out k m hz
          obtain ⟨b2, off2, rfl, d0, d1, d2⟩ := HX.out.get hpv
          have HS := hid (rowMix_step (Z := zeroR T) hz hv)
          have hki : (k : Int) < (L.length : Int) := by omega
          have hm0 : ¬ (m : Int) < 0 := by omega
          have hm1 : ¬ (T.cols.length : Int) ≤ (m : Int) := by omega
          have k0 := (HB9.out.cell (block_cell c0)).trans c0
          have v0 := (HB9.out.cell (block_cell d0)).trans d0
          have v1 := (HB9.out.cell (block_cell d1)).trans d1
          have v2 := (HB9.out.cell (block_cell d2)).trans d2
          have hmm : m < (rowMix (zeroR T) r (L.take k)).length := by rw [rowMix_len, HZL.out]; omega
          obtain ⟨u, hu⟩ : ∃ u, (rowMix (zeroR T) r (L.take k))[m]? = some u := ⟨_, List.getElem?_eq_getElem hmm⟩
          obtain ⟨s0, s1, s2⟩ := cellsL_at hu
          have r0 : wr.cell? ⟨g, m * 3, none⟩ = some (.int .i64 u.k) := by rw [HO.out.cellAt _ (by omega)]; exact s0
          have r1 : wr.cell? ⟨g, m * 3 + 1, none⟩ = some (.int .i64 u.i) := by rw [HO.out.cellAt _ (by omega)]; exact s1
          have r2 : wr.cell? ⟨g, m * 3 + 2, none⟩ = some (.string ⟨u.s.toArray⟩) := by rw [HO.out.cellAt _ (by omega)]; exact s2
          have f0 := HO.out.frozenAt (m * 3)
          have f1 := HO.out.frozenAt (m * 3 + 1)
          have f2 := HO.out.frozenAt (m * 3 + 2)
          have HMM := hid hmm
          clear c0 d0 d1 d2 hz hv hpv hz1 hu s0 s1 s2 hmm
          go_upto_region 15 with fail
          obtain ⟨o1, g1⟩ := HO.out.stored (m * 3) (.int .i64 v.k)
          obtain ⟨o2, g2⟩ := o1.stored (m * 3 + 1) (.int .i64 v.i)
          obtain ⟨o3, g3⟩ := o2.stored (m * 3 + 2) (.string ⟨v.s.toArray⟩)
          rw [set3_cells _ _ _ HMM.out, HS.out] at o3
          have hb9 := ((HB9.out.grown g1 HB9.out.size (fun j hj => by cases hj; exact hg1)).grown g2 (Nat.le_trans HB9.out.size g1.size) (fun j hj => by cases hj; exact hg1)).grown g3 (Nat.le_trans (Nat.le_trans HB9.out.size g1.size) g2.size) (fun j hj => by cases hj; exact hg1)
          generalize ((wr.setCell ⟨g, m * 3, none⟩ (.int .i64 v.k)).setCell ⟨g, m * 3 + 1, none⟩ (.int .i64 v.i)).setCell ⟨g, m * 3 + 2, none⟩ (.string ⟨v.s.toArray⟩) = w9 at *
          have HO9 := hid o3
          have HB8 := hid hb9
          clear o1 o2 o3 g1 g2 g3 hb9 k0 v0 v1 v2 r0 r1 r2 f0 f1 f2
          go_wp2_with fail
          go_roundw
          case rel => exact ⟨k + 1, by omega, by go_num, HO9, HB8⟩
          case measure => simp [intOf]; omega
        · obtain rfl : k = L.length := by omega
          rw [List.take_length] at HO
          go_wp2_with fail
          go_ret2
          have hv : Vs wr (.slice (some ⟨g, 0, none⟩) T.cols.length cap) (rowMix (zeroR T) r L) := Vs.own (by rw [rowMix_len, HZL.out]; exact HO.out)
          exact ⟨_, _, rfl, hv, HB9.out⟩
end Go.Proofs.YtpdmocdfnakggaaDoor

