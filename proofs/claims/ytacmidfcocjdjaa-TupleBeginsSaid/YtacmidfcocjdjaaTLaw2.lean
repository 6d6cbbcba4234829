/-
  WHAT THE LAWS' WALKS USE: each callee, wherever it is called.
-/
import Derived.Test.YtacmidfcocjdjaaTDec
import Derived.Test.YtacmidfcocjdjaaTBegins
import Derived.Test.YtacmidfcocjdjaaTOwnV
import Derived.Test.YtacmidfcocjdjaaTLaw
namespace Go.Proofs.Ytacmidfcocjdjaa
open Go.RowKit

theorem stepB {w w1 w2 : World} (h : Below w.heap.size w w1) (g : Below w1.heap.size w1 w2) : Below w.heap.size w w2 := h.trans (g.mono h.size)

/-- 'append(v, x...)' behind '&&': v the call's own, x whatever. -/
theorem wp_app_guard {P : Program} {w : World} {ops : Array Oper} {rest : List Oper} {o : Oper} {a : Act} {Q : Exit → Act → World → Prop} (hgd : Region.wanted o (yielded ops a.tmps) = true) (s x : Operand) (t : TypeId)
    (ho : o.op = .call { callee := .builtin .append, args := #[s, x], argTypes := #[t, t] })
    (base : Nat) (e : TypeId) (ht : P.underlying t = some (.slice e)) (hinfo : (P.info? e).map (fun i => (i.zero, i.size, i.bytes)) = some (some (.int .u8 0), 1, 1))
    (v : Value) (n : Nat) (xs : List Value) (hs : a.eval s = v) (hown : w.ownsRow base e 1 v n xs)
    (y : Value) (l : List UInt8) (hx : a.eval x = y) (hr : Rd w y l) (hn : n + l.length ≤ 140737488355328) (hbase : base ≤ w.heap.size)
    (h : ∀ v' w', w'.ownsRow base e 1 v' (n + l.length) (xs ++ l.map bv) → w.grownBy w' v.ownBlock → wpList P ops Q rest (a.put o.dst v') w') : wpList P ops Q (o :: rest) a w := by
  obtain ⟨i0, hi, hz0, hz1, hz2⟩ := info_parts hinfo
  refine wpList_step fun K hK => ?_
  rw [if_pos hgd]
  obtain ⟨ao, c, rfl, h1, h2, h3, h4⟩ := hr
  cases ao with
  | some ad =>
    exact wp_append_own w s x t ho base e i0 (.int .u8 0) 1 1 ht hi hz0 hz1 hz2 rfl (by decide) v n xs hs hown ad l.length c (l.map bv) hx (by simp) (h4 ad rfl) (bv_one l)
      (by unfold maxLen; omega) (by omega) hbase fun v' w' a1 a2 _ => hK _ _ (h v' w' a1 a2)
  | none =>
    have hc := h3 rfl
    obtain rfl : l = [] := List.eq_nil_of_length_eq_zero (by omega)
    subst hc
    have hrun := run_append_owned_none (P := P) (w := w) base t o.type e i0 1 ht hi v n xs hown
    unfold Oper.wp execOp
    simp only [List.length_nil] at hx
    simp only [ho, resolve, invoke, builtin, Sem.run_bind, Sem.run_pure, Result.andThen_ok, List.map_toArray, List.map_cons, List.map_nil, hs, hx, hrun]
    exact hK _ _ (h v w (by simpa using hown) (World.grownBy.refl _ _))

/-- All are right, and few enough. -/
def goodL (l : List Vl) : Prop := (∀ v ∈ l, okV v) ∧ l.length < 60

theorem right_from {w wr : World} {x : Value} {l : List Vl} (h : Below w.heap.size w wr) (hx : Vs w x l) (b : Bool) (hb : b = decide ((∀ v ∈ l, okV v) ∧ l.length < 60)) : Calls Try.prog 26 #[x] wr fun e w' => e = .returned (.bool b) ∧ Below w.heap.size w w' :=
  (lright_any x l wr (hx.old h)).mono fun _ _ ⟨h1, h2⟩ => ⟨by rw [h1, hb], stepB h h2⟩

theorem good_true {l : List Vl} (h : (∀ v ∈ l, okV v) ∧ l.length < 60) : true = decide ((∀ v ∈ l, okV v) ∧ l.length < 60) := (decide_eq_true h).symm
theorem good_false {l : List Vl} (h : ¬ ((∀ v ∈ l, okV v) ∧ l.length < 60)) : false = decide ((∀ v ∈ l, okV v) ∧ l.length < 60) := (decide_eq_false h).symm

/-- The bytes of right values, not too many. -/
theorem enc_right (x : Value) (l : List Vl) (w : World) (hx : Vs w x l) (hin : ∀ v ∈ l, inV v) (hok : ∀ v ∈ l, okV v) (h16 : l.length ≤ 16) :
    Calls Try.prog 12 #[x] w fun e w' => ∃ (ao : Option Addr) (c : Nat), e = .returned (.tuple #[.slice ao (encL l).length c, .int .i64 0]) ∧ w'.ownsRow w.heap.size 5 1 (.slice ao (encL l).length c) (encL l).length ((encL l).map bv) ∧ Below w.heap.size w w' := by
  obtain ⟨h1, h2⟩ := encE_ok hok (by omega)
  refine (enc_any x l w hx hin (by omega)).mono fun e w' h => ?_
  obtain ⟨ao, c, he, ho, hb⟩ := h.elim
  rw [h1, h2] at he
  rw [h2] at ho
  exact ⟨ao, c, he, ho, hb⟩

/-- Right values' bytes are read. -/
theorem dec_right (x : Value) (l : List Vl) (w : World) (hx : Rd w x (encL l)) (hin : ∀ v ∈ l, inV v) (hok : ∀ v ∈ l, okV v) (h16 : l.length ≤ 16) :
    Calls Try.prog 19 #[x] w fun e w' => ∃ (ao : Option Addr) (c : Nat), e = .returned (.tuple #[.slice ao l.length c, .int .i64 ((encL l).length : Nat), .int .i64 0]) ∧ w'.ownsRow w.heap.size 24 3 (.slice ao l.length c) l.length (cellsL l) ∧ Below w.heap.size w w' := by
  have hd := decA_all l (fun v hv => ⟨hok v hv, hin v hv⟩)
  obtain ⟨h1, h2, h3⟩ := dec_ok hd (by omega)
  have hl := encL_len hok
  refine (dec_any x (encL l) w hx (by omega)).mono fun e w' h => ?_
  obtain ⟨ao, c, he, ho, hb⟩ := h.elim
  rw [h1, h2, h3] at he
  rw [h2] at ho
  exact ⟨ao, c, he, ho, hb⟩
end Go.Proofs.Ytacmidfcocjdjaa
