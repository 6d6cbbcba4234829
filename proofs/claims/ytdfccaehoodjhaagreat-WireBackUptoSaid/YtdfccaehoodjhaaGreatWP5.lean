import Derived.Deep.RegionHeld3
import Derived.Deep.AppendLies
import Derived.WalkKit
import Derived.OpenShut
import Derived.Test.YtdfccaehoodjhaaGreatRows
import Derived.WalkSpells
import Derived.WalkLawsBesides
import Derived.Laws.AppendOwnNone
import Derived.ProofKit
import Derived.ShutString
import Derived.ChangeOld
import Derived.Below
import Derived.SizedLaws
import Derived.Deep.Slices
import Derived.Deep.Strs
import Derived.Lib.ConvBytes
import Derived.Laws.AppendOwn
import Derived.Deep.CutRange
import Derived.Deep.MidRow
import Derived.Great.Walk
import Derived.Test.YtdfccaehoodjhaaGreatWP1
import Derived.Test.YtdfccaehoodjhaaGreatWP2
import Derived.Test.YtdfccaehoodjhaaGreatWP3
import Derived.Test.YtdfccaehoodjhaaGreatWP4
set_option linter.unusedVariables false
set_option linter.unusedSimpArgs false
set_option linter.unusedVariables false
set_option linter.unusedSimpArgs false
set_option maxRecDepth 100000
namespace Go.Proofs.YtdfccaehoodjhaaGreat
open Go.RowKit Go.Deep

theorem row_at {w : World} {b : Nat} {cs : List Value} {t : TypeId} {i : Nat} {u : Value} (h : w.heap[b]? = some (.cells cs.toArray t (0, 0))) (hi : cs[i]? = some u) : w.cell? ⟨b, i, none⟩ = some u ∧ w.frozen? ⟨b, i, none⟩ = false := by
  constructor
  · simp only [World.cell?, h]; simpa using hi
  · simp [World.frozen?, h]
theorem row_put {w : World} {b : Nat} {cs : List Value} {t : TypeId} (h : w.heap[b]? = some (.cells cs.toArray t (0, 0))) (i : Nat) (v : Value) : (w.setCell ⟨b, i, none⟩ v).heap[b]? = some (.cells (cs.set i v).toArray t (0, 0)) := by
  have hlt := lt_of_block h
  have h' : w.heap[b] = .cells cs.toArray t (0, 0) := by simpa [Array.getElem?_eq_getElem hlt] using h
  show (w.heap.modify b _)[b]? = _
  rw [Array.getElem?_eq_getElem (by simpa using hlt), Array.getElem_modify_self, h']
  simp

/-- What a field's reading leaves. -/
def TkP (s : Sh) (R B : Nat) (w : World) (st : Rst) (cs : List Value) (t : TypeId) (i : Nat) (v : Value) (w' : World) : Prop :=
  EncN (fun k => w.heap.size ≤ k ∧ k < w'.heap.size) w' s [v] (rdF s st).1 ∧ w'.heap[B]? = some (.cells (cs.set i v).toArray t (0, 0)) ∧ RAt w' R (rdF s st).2.1 (rdF s st).2.2 ∧ Keep (fun k => k = R ∨ k = B) w w'

theorem RdP.undrew {s : Sh} {R : Nat} {w w' : World} {st : Rst} {cs : List Value} (h : RdP s R w.drew st cs w') : RdP s R w st cs w' := ⟨h.1, h.2.1, ⟨h.2.2.os, h.2.2.tape, h.2.2.output, h.2.2.size, h.2.2.block⟩⟩

/-- A value that was read is stored. -/
theorem RdP.store {s : Sh} {R B : Nat} {w w' : World} {st : Rst} {cs : List Value} {t : TypeId} {v : Value} (h : RdP s R w st [v] w') (hB : w.heap[B]? = some (.cells cs.toArray t (0, 0))) (hRB : R < B) (i : Nat) :
    TkP s R B w st cs t i v (w'.setCell ⟨B, i, none⟩ v) := by
  obtain ⟨h1, h2, h3⟩ := h
  have hlt := lt_of_block hB
  have hB' : w'.heap[B]? = some (.cells cs.toArray t (0, 0)) := (h3.block B hlt (fun e => by omega)).trans hB
  have hk : Keep (fun k => k = B) w' (w'.setCell ⟨B, i, none⟩ v) := Keep.set w' ⟨B, i, none⟩ v rfl
  refine ⟨EncN.mono (fun k h => ⟨h.1, Nat.lt_of_lt_of_le h.2 hk.size⟩) s (EncN.keep hk (fun k h e => by have e' : k = B := e; have := h.1; omega) s h1), row_put hB' i v, h2.keepK hk (fun k e => by have e' : k = B := e; omega), ?_⟩
  exact (h3.mono (fun k _ e => .inl e)).trans (hk.mono (fun k _ e => .inr e))

theorem rd_len : ∀ (s : Sh) (st : Rst), (rdF s st).2.1.length ≤ st.1.length
  | .num, st => by simp only [rdF, List.length_drop]; omega
  | .int, st => by simp only [rdF, List.length_drop]; omega
  | .bool, st => by simp only [rdF, List.length_drop]; omega
  | .data, st => by simp only [rdF, List.length_drop]; omega
  | .name, st => by simp only [rdF, List.length_drop]; omega
  | .list s, st => by
    have h : ∀ n (st : Rst), (rdLF (rdF s) n st).2.2.1.length ≤ st.1.length := fun n => by
      induction n with
      | zero => intro st; exact Nat.le_refl _
      | succ n ih =>
        intro st
        have h1 := rd_len s st
        simp only [rdLF]
        split
        · exact h1
        · exact Nat.le_trans (ih _) h1
    have := h (lookS 5000 st.1 st.2).1 (st.1.drop (lookS 5000 st.1 st.2).2.1, (lookS 5000 st.1 st.2).2.2)
    simp only [rdF]
    refine Nat.le_trans this ?_
    simp
  | .nil, st => Nat.le_refl _
  | .cons s r, st => Nat.le_trans (rd_len r _) (rd_len s _)

/-- 'append(v, x)' of one row at a step of a region that draws. -/
theorem step_app1 {w : World} {ops : Array Oper} {o : Oper} {a : Act} {K : Act → World → Prop} {Q : Exit → Act → World → Prop} {E : Prop} (hgd : o.guard = none) (s x : Operand) (t : TypeId)
    (ho : o.op = .call { callee := .builtin .append, args := #[s, x], argTypes := #[t, t] })
    (base : Nat) (e : TypeId) (ht : Tryz.prog.underlying t = some (.slice e)) {i : TypeInfo} (hi : Tryz.prog.info? e = some i) {z : Value} {size bytes : Nat} (hz : i.zero = some z) (hsize : i.size = size) (hby : i.bytes = bytes) (hzs : z.cells.size = size) (hsz : 0 < size)
    (v : Value) (n : Nat) (xs : List Value) (hs : a.eval s = v) (hown : w.ownsRow base e size v n xs)
    (g0 : Nat) (r : List Value) (hx : a.eval x = .slice (some ⟨g0, 0, none⟩) 1 1) (hr : w.heap[g0]? = some (.cells r.toArray e (0, 0))) (hrl : r.length = size) (h1 : ∀ u ∈ r, u.oneCell' = true) (h63 : n + 1 ≤ 100000) (hbytes : bytes ≤ 1000) (hbase : base ≤ w.heap.size)
    (h : ∀ g cap w', w'.ownsRow base e size (.slice (some ⟨g, 0, none⟩) (n + 1) cap) (n + 1) (xs ++ r) → w.grownBy w' v.ownBlock → (v.ownBlock = some g ∨ g = w.heap.size) → K (a.put o.dst (.slice (some ⟨g, 0, none⟩) (n + 1) cap)) w') :
    if Region.wanted o (yielded ops a.tmps) = true then Oper.wp Tryz.prog o a w K Q else E := by
  have hb : (n + 1) * bytes ≤ 140737488355328 := by
    have := Nat.mul_le_mul h63 hbytes
    omega
  exact step_append_lies w hgd s x t ho base e i z size bytes ht hi hz hsize hby hzs hsz v n xs hs hown ⟨g0, 0, none⟩ 1 1 r hx (by omega) (fun j u hu => by
      rw [WideShapes.add_plain, Nat.zero_add]
      exact (row_at hr hu).1) h1 (by decide) (by unfold maxLen; omega) hb hbase _ rfl (fun g cap w' a1 a2 a3 _ => h g cap w' a1 a2 a3)

/-- How a list's rest goes on behind what was read of it. -/
theorem rdLF_zero (f : Rst → List UInt8 × Rst) (st : Rst) : rdLF f 0 st = (0, [], st) := rfl
theorem rdLF_more (f : Rst → List UInt8 × Rst) (n : Nat) (st : Rst) (h : (f st).2.2 = 0) : rdLF f (n + 1) st = ((rdLF f n (f st).2).1 + 1, (f st).1 ++ (rdLF f n (f st).2).2.1, (rdLF f n (f st).2).2.2) := by
  rw [rdLF, if_neg (by simpa using h)]
theorem rdLF_stop (f : Rst → List UInt8 × Rst) (n : Nat) (st : Rst) (h : (f st).2.2 ≠ 0) : rdLF f (n + 1) st = (1, (f st).1, (f st).2) := by
  rw [rdLF, if_pos h]

/-- The rounds of a list's reading: what stands ahead of round k (of n): the rows M, in the field's cell; st: where the list began, sk: where it is. -/
structure TLp (s : Sh) (e : TypeId) (R B i : Nat) (w : World) (cs : List Value) (t : TypeId) (n : Nat) (st : Rst) (wr : World) (k : Nat) (M : List (List Value × List UInt8)) (ao : Option Addr) (c : Nat) (sk : Rst) : Prop where
  le : k ≤ n
  len : M.length = k
  field : wr.heap[B]? = some (.cells (cs.set i (.slice ao k c)).toArray t (0, 0))
  own : wr.ownsRow (w.heap.size + 1) e s.wid (.slice ao k c) k (M.map (·.1)).flatten
  red : ∀ m ∈ M, EncN (fun j => w.heap.size ≤ j ∧ j < wr.heap.size ∧ (Value.slice ao k c).ownBlock ≠ some j) wr s m.1 m.2
  rat : RAt wr R sk.1 sk.2
  small : sk.1.length ≤ st.1.length
  rest : rdLF (rdF s) n st = ((rdLF (rdF s) (n - k) sk).1 + k, (M.map (·.2)).flatten ++ (rdLF (rdF s) (n - k) sk).2.1, (rdLF (rdF s) (n - k) sk).2.2)
  keep : Keep (fun j => j = R ∨ j = B) w wr

theorem TLp.begin {s : Sh} {e : TypeId} {R B i : Nat} {w wr : World} {cs : List Value} {t : TypeId} {n : Nat} {st : Rst} (hi : cs[i]? = some (.slice none 0 0)) (hf : wr.heap[B]? = some (.cells cs.toArray t (0, 0))) (hr : RAt wr R st.1 st.2) (hk : Keep (fun j => j = R ∨ j = B) w wr) :
    TLp s e R B i w cs t n st wr 0 [] none 0 st := by
  have hs : cs.set i (.slice none 0 0) = cs := by
    obtain ⟨h1, h2⟩ := List.getElem?_eq_some_iff.1 hi
    rw [← h2]
    exact List.set_getElem_self h1
  exact ⟨Nat.zero_le _, rfl, by rw [hs]; exact hf, World.ownsRow_nil _ _ _ _, (fun m hm => by cases hm), hr, Nat.le_refl _, by simp, hk⟩

theorem mk_list {s : Sh} {e : TypeId} {base base0 : Nat} (hb0 : base0 ≤ base) {wr : World} {M : List (List Value × List UInt8)} {ao : Option Addr} {c k : Nat} {P : Nat → Prop} (hl : M.length = k) (hk : k ≤ 5000) (own : wr.ownsRow base e s.wid (.slice ao k c) k (M.map (·.1)).flatten)
    (red : ∀ m ∈ M, EncN P wr s m.1 m.2) (hP : ∀ j, P j → base0 ≤ j ∧ j < wr.heap.size) : EncN (fun j => base0 ≤ j ∧ j < wr.heap.size) wr (.list s) [.slice ao k c] (numL k ++ (M.map (·.2)).flatten) := by
  subst hl
  have hw : Wide s.wid (M.map (·.1)) := fun r hr => by
    obtain ⟨m, hm, rfl⟩ := List.mem_map.1 hr
    exact (EncN.enc s (red m hm)).wide
  have hr := Rws.own (L := M.map (·.1)) (by rw [List.length_map]; exact own) hw
  exact ⟨ao, c, M, rfl, hr, fun m hm => EncN.mono hP s (red m hm), by omega, rfl, fun j hj => by have := own.lt j (by rw [ownBlock_blk]; exact hj); omega⟩

theorem TLp.done {s : Sh} {e : TypeId} {R B i : Nat} {w wr : World} {cs : List Value} {t : TypeId} {n : Nat} {st : Rst} {M : List (List Value × List UInt8)} {ao : Option Addr} {c : Nat} {sk : Rst} (h : TLp s e R B i w cs t n st wr n M ao c sk) (hn : n ≤ 5000) :
    EncN (fun k => w.heap.size ≤ k ∧ k < wr.heap.size) wr (.list s) [.slice ao n c] (numL (rdLF (rdF s) n st).1 ++ (rdLF (rdF s) n st).2.1) ∧ RAt wr R (rdLF (rdF s) n st).2.2.1 (rdLF (rdF s) n st).2.2.2 := by
  have e1 := h.rest
  rw [Nat.sub_self, rdLF_zero] at e1
  rw [e1]
  simp only [Nat.zero_add, List.append_nil]
  exact ⟨mk_list (Nat.le_succ _) h.len hn h.own h.red (fun j hj => ⟨hj.1, hj.2.1⟩), h.rat⟩

/-- One thing more: read, appended, stored. -/
theorem TLp.next {s : Sh} {e : TypeId} {R B i : Nat} {w wr : World} {cs : List Value} {t : TypeId} {n : Nat} {st : Rst} {k : Nat} {M : List (List Value × List UInt8)} {ao : Option Addr} {c : Nat} {sk : Rst} (h : TLp s e R B i w cs t n st wr k M ao c sk)
    (hRw : R < w.heap.size) (hBw : B < w.heap.size) (hRB : R < B) (hkn : k < n) {mc : List Value} {w2 w3 w4 : World} (hrd : RdP s R wr sk mc w2) {g cap : Nat}
    (h3 : Below w2.heap.size w2 w3) (o4 : w4.ownsRow (w.heap.size + 1) e s.wid (.slice (some ⟨g, 0, none⟩) (k + 1) cap) (k + 1) ((M.map (·.1)).flatten ++ mc)) (g4 : w3.grownBy w4 (Value.slice ao k c).ownBlock) (gg : (Value.slice ao k c).ownBlock = some g ∨ g = w3.heap.size) :
    RAt (w4.setCell ⟨B, i, none⟩ (.slice (some ⟨g, 0, none⟩) (k + 1) cap)) R (rdF s sk).2.1 (rdF s sk).2.2 ∧
    ((rdF s sk).2.2 = 0 → TLp s e R B i w cs t n st (w4.setCell ⟨B, i, none⟩ (.slice (some ⟨g, 0, none⟩) (k + 1) cap)) (k + 1) (M ++ [(mc, (rdF s sk).1)]) (some ⟨g, 0, none⟩) cap (rdF s sk).2) ∧
    ((rdF s sk).2.2 ≠ 0 → n ≤ 5000 → EncN (fun j => w.heap.size ≤ j ∧ j < (w4.setCell ⟨B, i, none⟩ (.slice (some ⟨g, 0, none⟩) (k + 1) cap)).heap.size) (w4.setCell ⟨B, i, none⟩ (.slice (some ⟨g, 0, none⟩) (k + 1) cap)) (.list s) [.slice (some ⟨g, 0, none⟩) (k + 1) cap] (numL (rdLF (rdF s) n st).1 ++ (rdLF (rdF s) n st).2.1) ∧
      (w4.setCell ⟨B, i, none⟩ (.slice (some ⟨g, 0, none⟩) (k + 1) cap)).heap[B]? = some (.cells (cs.set i (.slice (some ⟨g, 0, none⟩) (k + 1) cap)).toArray t (0, 0)) ∧ RAt (w4.setCell ⟨B, i, none⟩ (.slice (some ⟨g, 0, none⟩) (k + 1) cap)) R (rdLF (rdF s) n st).2.2.1 (rdLF (rdF s) n st).2.2.2 ∧ Keep (fun j => j = R ∨ j = B) w (w4.setCell ⟨B, i, none⟩ (.slice (some ⟨g, 0, none⟩) (k + 1) cap))) := by
  obtain ⟨e1, r1, k1⟩ := hrd
  have hown : ∀ j, (Value.slice ao k c).ownBlock = some j → w.heap.size + 1 ≤ j ∧ j < wr.heap.size := fun j hj => h.own.lt j hj
  have K3 : Keep (fun _ => False) w2 w3 := Keep.of_below h3
  have K4 : Keep (fun j => (Value.slice ao k c).ownBlock = some j) w3 w4 := Keep.of_grown g4 (fun j hj => hj)
  have K5 : Keep (fun j => j = B) w4 (w4.setCell ⟨B, i, none⟩ (.slice (some ⟨g, 0, none⟩) (k + 1) cap)) := Keep.set w4 ⟨B, i, none⟩ _ rfl
  have s0 := h.keep.size
  have s1 := k1.size
  have s3 := K3.size
  have s4 := K4.size
  have s5 := K5.size
  have hg : w.heap.size + 1 ≤ g := (o4.lt g rfl).1
  have hf3 : w3.heap[B]? = some (.cells (cs.set i (.slice ao k c)).toArray t (0, 0)) := (K3.block B (by omega) (fun e => e)).trans ((k1.block B (by omega) (fun e => by have e' : B = R := e; omega)).trans h.field)
  have hf4 := (K4.block B (by omega) (fun e => by have := (hown B e).1; omega)).trans hf3
  have hf5 := row_put hf4 i (.slice (some ⟨g, 0, none⟩) (k + 1) cap)
  rw [List.set_set] at hf5
  have r5 : RAt (w4.setCell ⟨B, i, none⟩ (.slice (some ⟨g, 0, none⟩) (k + 1) cap)) R (rdF s sk).2.1 (rdF s sk).2.2 :=
    ((r1.keepK K3 (fun j e => e.elim)).keepK K4 (fun j e => by have := (hown j e).1; omega)).keepK K5 (fun j e => by have e' : j = B := e; omega)
  have o5 := o4.kept (grown_set w4 ⟨B, i, none⟩ (.slice (some ⟨g, 0, none⟩) (k + 1) cap)) (.inr (by simp [Value.ownBlock]; omega))
  have kk : Keep (fun j => j = R ∨ j = B) w (w4.setCell ⟨B, i, none⟩ (.slice (some ⟨g, 0, none⟩) (k + 1) cap)) :=
    (((h.keep.trans (k1.mono (fun j _ e => .inl e))).trans (K3.mono (fun j _ e => e.elim))).trans2 K4 (fun j e => .inr (Nat.le_of_succ_le (hown j e).1))).trans (K5.mono (fun j _ e => .inr e))
  have red : ∀ m ∈ M ++ [(mc, (rdF s sk).1)], EncN (fun j => w.heap.size ≤ j ∧ j < (w4.setCell ⟨B, i, none⟩ (.slice (some ⟨g, 0, none⟩) (k + 1) cap)).heap.size ∧ (Value.slice (some ⟨g, 0, none⟩) (k + 1) cap).ownBlock ≠ some j) (w4.setCell ⟨B, i, none⟩ (.slice (some ⟨g, 0, none⟩) (k + 1) cap)) s m.1 m.2 := fun m hm => by
    rcases List.mem_append.1 hm with hm | hm
    · have q0 := h.red m hm
      have q1 := EncN.keep k1 (fun j hj e => by have e' : j = R := e; have := hj.1; omega) s q0
      have q2 := EncN.keep K3 (fun j hj e => e) s q1
      have q3 := EncN.keep K4 (fun j hj e => hj.2.2 e) s q2
      have q4 := EncN.keep K5 (fun j hj e => by have e' : j = B := e; have := hj.1; omega) s q3
      refine EncN.mono (fun j hj => ⟨hj.1, by omega, fun e => ?_⟩) s q4
      have e' : g = j := by simpa [Value.ownBlock] using e
      subst e'
      rcases gg with e | e
      · exact hj.2.2 e
      · omega
    · obtain rfl := List.mem_singleton.1 hm
      have q2 := EncN.keep K3 (fun j hj e => e) s e1
      have q3 := EncN.keep K4 (fun j hj e => by have := (hown j e).2; have := hj.1; omega) s q2
      have q4 := EncN.keep K5 (fun j hj e => by have e' : j = B := e; have := hj.1; omega) s q3
      refine EncN.mono (fun j hj => ⟨by omega, by omega, fun e => ?_⟩) s q4
      have e' : g = j := by simpa [Value.ownBlock] using e
      subst e'
      rcases gg with e | e
      · have := (hown g e).2; omega
      · omega
  have hfl : ((M ++ [(mc, (rdF s sk).1)]).map (·.1)).flatten = (M.map (·.1)).flatten ++ mc := by simp
  have hfb : ((M ++ [(mc, (rdF s sk).1)]).map (·.2)).flatten = (M.map (·.2)).flatten ++ (rdF s sk).1 := by simp
  have hnk : n - k = (n - (k + 1)) + 1 := by omega
  refine ⟨r5, fun h0 => ⟨by omega, by rw [List.length_append, h.len]; rfl, hf5, by rw [hfl]; exact o5, red, r5, Nat.le_trans (rd_len s sk) h.small, ?_, kk⟩, fun h0 hn => ⟨?_, hf5, ?_, kk⟩⟩
  · rw [h.rest, hnk, rdLF_more _ _ _ h0, hfb]
    simp only [Prod.mk.injEq, List.append_assoc, and_true]
    omega
  · have := mk_list (Nat.le_succ _) (M := M ++ [(mc, (rdF s sk).1)]) (k := k + 1) (by rw [List.length_append, h.len]; rfl) (by omega) (by rw [hfl]; exact o5) red (fun j hj => ⟨hj.1, hj.2.1⟩)
    rw [h.rest, hnk, rdLF_stop _ _ _ h0]
    rw [hfb] at this
    rw [show 1 + k = k + 1 from by omega]
    exact this
  · rw [h.rest, hnk, rdLF_stop _ _ _ h0]
    exact r5
set_option maxHeartbeats 2000000 in
theorem rtake_whole {w : World} {R B : Nat} {st : Rst} {cs : List Value} {t : TypeId} (i : Nat) {u : Value} (h : RAt w R st.1 st.2) (hl : st.1.length ≤ 140737488355328) (hB : w.heap[B]? = some (.cells cs.toArray t (0, 0))) (hi : cs[i]? = some u) (hRB : R < B) :
    Calls Tryz.prog 88 #[.pointer (some ⟨B, i, none⟩), (.func (.func 89) #[.agg #[.pointer (some ⟨R, 0, none⟩)]] #[])] w (fun en w' => en = .returned (.tuple #[]) ∧ ∃ v, TkP .int R B w st cs t i v w') := by
  have C := hid (rwhole_any h)
  have HB := hid hB
  have HI := hid hi
  clear hB hi h
  go_enter Tryz.func88, Tryz.ntmps88
  go_wp2_with (first | (go_at_call 89; refine C.out.mono ?_; rintro en w2 ⟨v, rfl, hv⟩; obtain ⟨y0, rfl⟩ := form_int (EncN.enc _ hv.1); have HV := hid hv; obtain ⟨z0, z1⟩ := row_at ((hv.2.2.block B (lt_of_block HB.out) (fun e => by have e9 : B = R := e; omega)).trans HB.out) HI.out; clear hv))
  go_end0
  exact ⟨rfl, _, HV.out.store HB.out hRB i⟩

set_option maxHeartbeats 2000000 in
theorem rtake_name {w : World} {R B : Nat} {st : Rst} {cs : List Value} {t : TypeId} (i : Nat) {u : Value} (h : RAt w R st.1 st.2) (hl : st.1.length ≤ 140737488355328) (hB : w.heap[B]? = some (.cells cs.toArray t (0, 0))) (hi : cs[i]? = some u) (hRB : R < B) :
    Calls Tryz.prog 104 #[.pointer (some ⟨B, i, none⟩), (.func (.func 105) #[.agg #[.pointer (some ⟨R, 0, none⟩)]] #[])] w (fun en w' => en = .returned (.tuple #[]) ∧ ∃ v, TkP .name R B w st cs t i v w') := by
  have C := hid (rname_any h hl)
  have HB := hid hB
  have HI := hid hi
  clear hB hi h
  go_enter Tryz.func104, Tryz.ntmps104
  go_wp2_with (first | (go_at_call 105; refine C.out.mono ?_; rintro en w2 ⟨v, rfl, hv⟩; obtain ⟨y0, rfl⟩ := form_name (EncN.enc _ hv.1); have HV := hid hv; obtain ⟨z0, z1⟩ := row_at ((hv.2.2.block B (lt_of_block HB.out) (fun e => by have e9 : B = R := e; omega)).trans HB.out) HI.out; clear hv))
  go_end0
  exact ⟨rfl, _, HV.out.store HB.out hRB i⟩

set_option maxHeartbeats 2000000 in
theorem rtake_flag {w : World} {R B : Nat} {st : Rst} {cs : List Value} {t : TypeId} (i : Nat) {u : Value} (h : RAt w R st.1 st.2) (hl : st.1.length ≤ 140737488355328) (hB : w.heap[B]? = some (.cells cs.toArray t (0, 0))) (hi : cs[i]? = some u) (hRB : R < B) :
    Calls Tryz.prog 90 #[.pointer (some ⟨B, i, none⟩), (.func (.func 91) #[.agg #[.pointer (some ⟨R, 0, none⟩)]] #[])] w (fun en w' => en = .returned (.tuple #[]) ∧ ∃ v, TkP .bool R B w st cs t i v w') := by
  have C := hid (rflag_any h)
  have HB := hid hB
  have HI := hid hi
  clear hB hi h
  go_enter Tryz.func90, Tryz.ntmps90
  go_wp2_with (first | (go_at_call 91; refine C.out.mono ?_; rintro en w2 ⟨v, rfl, hv⟩; obtain ⟨y0, rfl⟩ := form_bool (EncN.enc _ hv.1); have HV := hid hv; obtain ⟨z0, z1⟩ := row_at ((hv.2.2.block B (lt_of_block HB.out) (fun e => by have e9 : B = R := e; omega)).trans HB.out) HI.out; clear hv))
  go_end0
  exact ⟨rfl, _, HV.out.store HB.out hRB i⟩

set_option maxHeartbeats 8000000 in
theorem rlist_int {w : World} {R B : Nat} {st : Rst} {cs : List Value} {t : TypeId} (i : Nat) (h : RAt w R st.1 st.2) (hl : st.1.length ≤ 140737488355328) (hB : w.heap[B]? = some (.cells cs.toArray t (0, 0))) (hi : cs[i]? = some (.slice none 0 0)) (hRB : R < B) :
    Calls Tryz.prog 169 #[.agg #[.pointer (some ⟨R, 0, none⟩)], .pointer (some ⟨B, i, none⟩), (.func (.func 89) #[.agg #[.pointer (some ⟨R, 0, none⟩)]] #[])] w (fun en w' => en = .returned (.tuple #[]) ∧ ∃ v, TkP (.list .int) R B w st cs t i v w') := by
  obtain ⟨i0, hi0, hz0, hz1, hz2⟩ : ∃ i0, Tryz.prog.info? 3 = some i0 ∧ i0.zero = some (.int .i64 0) ∧ i0.size = 1 ∧ i0.bytes = 8 := by
    have h9 : (Tryz.prog.info? 3).map (fun i => (i.zero, i.size, i.bytes)) = some (some (.int .i64 0), 1, 8) := by kernel_rfl
    cases hq : Tryz.prog.info? 3 with
    | none => rw [hq] at h9; cases h9
    | some q => rw [hq] at h9; simp at h9; exact ⟨q, rfl, h9⟩
  have HI0 := hid (And.intro hi0 (And.intro hz0 (And.intro hz1 hz2)))
  clear hi0 hz0 hz1 hz2
  have hb : Below w.heap.size w (w.alloc (.cells #[.pointer (some ⟨R, 0, none⟩)] 85)) := (Below.refl _ _).alloc (Nat.le_refl _) _
  have hz := heap_alloc_new w (.cells #[.pointer (some ⟨R, 0, none⟩)] 85)
  have hRw := h.lt
  have hBw := lt_of_block hB
  have HRW := hid hRw
  have HBW := hid hBw
  have H := hid (h.old hb)
  have HB := hid hb
  have HF := hid ((hb.block _ hBw).trans hB)
  have HI := hid hi
  have HZ := hid hz
  have HLE := hid hl
  clear h hB hi hb hz hl
  go_enter Tryz.func169, Tryz.ntmps169
  go_upto_region 1 with fail
  generalize w.alloc (.cells #[.pointer (some ⟨R, 0, none⟩)] 85) = w1 at *
  obtain ⟨z0, z1⟩ := one_cell HZ.out
  obtain ⟨n, hn⟩ : ∃ n, n = (lookS 5000 st.1 st.2).1 := ⟨_, rfl⟩
  obtain ⟨s1, hs1⟩ : ∃ s1 : Rst, s1 = (st.1.drop (lookS 5000 st.1 st.2).2.1, (lookS 5000 st.1 st.2).2.2) := ⟨_, rfl⟩
  have HN := hid (And.intro hn hs1)
  have hn5 : n ≤ 5000 := by rw [hn]; exact lookS_most _ _ _
  have C0 : Hid (Calls Tryz.prog 166 #[.pointer (some ⟨R, 0, none⟩), .int .i64 5000] w1 (fun en w' => en = .returned (.int .i64 (n : Int)) ∧ RAt w' R s1.1 s1.2 ∧ w1.grownBy w' (some R))) := hid ((smallR_any w1 R st.1 st.2 5000 (by decide) H.out).mono (fun en w9 h9 => by rw [hn, hs1]; exact h9))
  have HS1 : Hid (s1.1.length ≤ st.1.length) := hid (by rw [hs1]; simp)
  clear hn hs1
  go_wp2_with (first | (go_at_call 166; refine C0.out.mono ?_; rintro en w2 ⟨rfl, h2, g2⟩; have H2 := hid h2; have K2 := hid (show Keep (fun j => j = R ∨ j = B) w w2 from (Keep.of_below HB.out).trans ((Keep.of_grown (X := fun j => j = R) g2 (fun j e => by cases e; rfl)).mono (fun j _ e => .inl e))); have HF2 := hid ((g2.block B (lt_of_block HF.out) (fun e => by cases e; omega)).trans HF.out); have HZ2 := hid ((g2.block w.heap.size (lt_of_block HZ.out) (fun e => by cases e; omega)).trans HZ.out); clear h2 g2))
  clear z0 z1 C0
  go_loopw [9] (fun ix wr => ∃ (k : Nat) (M : List (List Value × List UInt8)) (ao : Option Addr) (c : Nat) (sk : Rst), ix = .int .i64 (k : Int) ∧ wr.heap[w.heap.size]? = some (.cells #[.pointer (some ⟨R, 0, none⟩)] 85 (0, 0)) ∧ TLp .int 3 R B i w cs t n s1 wr k M ao c sk) (fun ix _ => n - (intOf ix).toNat)
  case atStart => exact ⟨0, [], none, 0, s1, rfl, HZ2.out, TLp.begin HI.out HF2.out H2.out K2.out⟩
  case round =>
    obtain ⟨k, M, ao, c, sk, rfl, hzr, ht⟩ := hrel
    have hk := ht.le
    have HT := hid ht
    have HZR := hid hzr
    clear ht hzr
    by_cases hlt : k < n
    · have hki : (k : Int) < (n : Int) := by omega
      go_upto_region 3 with fail
      have hWd : Below wr.heap.size wr wr.drew := ⟨rfl, rfl, rfl, Nat.le_refl _, fun _ _ => rfl⟩
      have HLk : Hid (sk.1.length ≤ 140737488355328) := hid (by have := HT.out.small; have := HS1.out; have := HLE.out; omega)
      have HTd : Hid (RAt wr.drew R sk.1 sk.2) := hid (HT.out.rat.old hWd)
      have HFd : Hid (wr.drew.heap[B]? = some (.cells (cs.set i (.slice ao k c)).toArray t (0, 0))) := HT.out.field
      have hli : (cs.set i (.slice ao k c))[i]? = some (.slice ao k c) := List.getElem?_set_self (List.getElem?_eq_some_iff.1 HI.out).1
      have HLI := hid hli
      clear hli
      have CN := hid (rwhole_any HTd.out)
      have HUD : Hid (∀ mc w9, RdP .int R wr.drew sk mc w9 → RdP .int R wr sk mc w9) := hid fun _ _ h => h.undrew
      have HZd : Hid (wr.drew.heap[w.heap.size]? = some (.cells #[.pointer (some ⟨R, 0, none⟩)] 85 (0, 0))) := HZR.out
      refine wp_region_noPanic ?_
      refine wp_region_held_drew (S := fun _ => Hid True) (by kernel_rfl) (hid trivial) (fun hHeld => ?_)
      clear hWd
      obtain ⟨d0, d1⟩ := row_at HFd.out HLI.out
      generalize wr.drew = Wd at *
      have HD0 := hid d0
      clear d0 d1
      refine wpAnyH_take (i := 0) (v := (.pointer (some ⟨B, i, none⟩))) rfl (by kernel_rfl) (by kernel_rfl) (by kernel_rfl) (fun _ _ _ h => (show False from h).elim) ?xyRLint1 ?xhRLint1 ?xrRLint1
      case xhRLint1 => exact hHeld
      case xyRLint1 => exact Or.inl ⟨by rfl, fun W9 hW => by clear hHeld; simp only [List.getElem_toArray, List.getElem_cons_succ, List.getElem_cons_zero]; go_simp⟩
      simp only [Act.put, List.getElem_toArray, List.getElem_cons_succ, List.getElem_cons_zero, List.setIfInBounds_toArray, List.set_cons_succ, List.set_cons_zero]
      refine wpAnyH_take (i := 1) (v := (.pointer (some ⟨B, i, none⟩))) rfl (by kernel_rfl) (by kernel_rfl) (by kernel_rfl) (fun _ _ _ h => (show False from h).elim) ?xyRLint2 ?xhRLint2 ?xrRLint2
      case xhRLint2 => exact hHeld
      case xyRLint2 => exact Or.inl ⟨by rfl, fun W9 hW => by clear hHeld; simp only [List.getElem_toArray, List.getElem_cons_succ, List.getElem_cons_zero]; go_simp⟩
      simp only [Act.put, List.getElem_toArray, List.getElem_cons_succ, List.getElem_cons_zero, List.setIfInBounds_toArray, List.set_cons_succ, List.set_cons_zero]
      refine wpAnyH_take (i := 2) (v := (.pointer (some ⟨B, i, none⟩))) rfl (by kernel_rfl) (by kernel_rfl) (by kernel_rfl) (fun _ _ _ h => (show False from h).elim) ?xyRLint3 ?xhRLint3 ?xrRLint3
      case xhRLint3 => exact hHeld
      case xyRLint3 => exact Or.inl ⟨by rfl, fun W9 hW => by clear hHeld; simp only [List.getElem_toArray, List.getElem_cons_succ, List.getElem_cons_zero]; go_simp⟩
      simp only [Act.put, List.getElem_toArray, List.getElem_cons_succ, List.getElem_cons_zero, List.setIfInBounds_toArray, List.set_cons_succ, List.set_cons_zero]
      refine wpAnyH_take (i := 4) (v := (.func (.func 89) #[.agg #[.pointer (some ⟨R, 0, none⟩)]] #[])) rfl (by kernel_rfl) (by kernel_rfl) (by kernel_rfl) (fun _ _ _ h => (show False from h).elim) ?xyRLint4 ?xhRLint4 ?xrRLint4
      case xhRLint4 => exact hHeld
      case xyRLint4 => exact Or.inl ⟨by rfl, fun W9 hW => by clear hHeld; simp only [List.getElem_toArray, List.getElem_cons_succ, List.getElem_cons_zero]; go_simp⟩
      simp only [Act.put, List.getElem_toArray, List.getElem_cons_succ, List.getElem_cons_zero, List.setIfInBounds_toArray, List.set_cons_succ, List.set_cons_zero]
      refine wpAnyH_ready (rs := [3, 5]) (by kernel_rfl) (by simp) ?_
      refine AllReadyH.cons rfl (fun K hK => ?_) (AllReadyH.cons rfl (fun K hK => ?_) AllReadyH.nil)
      · have d0 := HD0.out
        go_simp
        refine hK.out _ _ (hid trivial) (fun hHeld => ?_)
        clear hK K d0
        refine wpAnyH_ready (rs := [5]) (by kernel_rfl) (by simp) ?_
        refine AllReadyH.cons rfl (fun K hK => ?_) AllReadyH.nil
        go_simp
        go_wp2_with (first | (go_at_call 89; refine CN.out.mono ?_; rintro en wT ⟨v, rfl, hv⟩; obtain ⟨y0, rfl⟩ := form_int (EncN.enc _ hv.1); have HV := hid (HUD.out _ _ hv); have HZT := hid ((hv.2.2.block w.heap.size (lt_of_block HZd.out) (fun e => by have e9 : w.heap.size = R := e; omega)).trans HZd.out); have HFT := hid ((hv.2.2.block B (lt_of_block HFd.out) (fun e => by have e9 : B = R := e; omega)).trans HFd.out); have hdT := (World.cell?_of_block (w := Wd) (w' := wT) (a := ⟨B, i, none⟩) (hv.2.2.block B (lt_of_block HFd.out) (fun e => by have e9 : B = R := e; omega))).trans HD0.out; have HDT := hid hdT; clear hv hdT))
        refine hK.out _ _ (hid trivial) (fun hHeld => ?_)
        clear hK K
        have H3 : Hid (Below wT.heap.size wT (wT.alloc (.cells #[.int .i64 y0] 3))) := hid ((Below.refl _ _).alloc (Nat.le_refl _) _)
        have HR3 := hid (heap_alloc_new wT (.cells #[.int .i64 y0] 3))
        have HOW : Hid ((wT.alloc (.cells #[.int .i64 y0] 3)).ownsRow (w.heap.size + 1) 3 1 (.slice ao k c) k (M.map (·.1)).flatten) := hid (own_old (own_keep (X := fun j => j = R) HT.out.own (show Keep _ wr wT from HV.out.2.2) (fun j e e9 => by have e8 : j = R := e9; have := (HT.out.own.lt j e).1; omega)) H3.out)
        have HSZ : Hid (w.heap.size + 1 ≤ (wT.alloc (.cells #[.int .i64 y0] 3)).heap.size) := hid (by have := lt_of_block HZT.out; have := H3.out.size; show _ ≤ _; omega)
        refine wpAnyH_ready (rs := [6]) (by kernel_rfl) (by simp) ?_
        refine AllReadyH.cons rfl (fun K hK => ?_) AllReadyH.nil
        go_simp
        refine hK.out _ _ (hid trivial) (fun hHeld => ?_)
        clear hK K
        refine wpAnyH_ready (rs := [7]) (by kernel_rfl) (by simp) ?_
        refine AllReadyH.cons rfl (fun K hK => ?_) AllReadyH.nil
        refine step_app1 (by rfl) (.tmp 14) (.tmp 17) 37 (by rfl) (w.heap.size + 1) 3 Tryz.underlying37 HI0.out.1 HI0.out.2.1 HI0.out.2.2.1 HI0.out.2.2.2 (by simp [Value.cells]) (by decide) _ k _ (by rfl) HOW.out wT.heap.size [.int .i64 y0] (by rfl) HR3.out rfl (fun u hu => by simp only [List.mem_cons, List.not_mem_nil, or_false] at hu; subst hu; rfl) (by omega) (by decide) HSZ.out (fun g cap w' o5 g5 gg5 => ?_)
        have HF4 : Hid (w'.heap[B]? = some (.cells (cs.set i (.slice ao k c)).toArray t (0, 0))) := hid (heap_kept g5 ((H3.out.block B (lt_of_block HFT.out)).trans HFT.out) (fun e => by have := (HT.out.own.lt B e.symm).1; omega))
        have HZ5 : Hid ((w'.setCell ⟨B, i, none⟩ (.slice (some ⟨g, 0, none⟩) (k + 1) cap)).heap[w.heap.size]? = some (.cells #[.pointer (some ⟨R, 0, none⟩)] 85 (0, 0))) := hid (heap_kept (grown_set w' ⟨B, i, none⟩ _) (heap_kept g5 ((H3.out.block _ (lt_of_block HZT.out)).trans HZT.out) (fun e => by have := (HT.out.own.lt _ e.symm).1; omega)) (fun e => by have e9 : w.heap.size = B := (by simpa using e); exact Nat.lt_irrefl _ (Nat.lt_of_lt_of_le HBW.out (Nat.le_of_eq e9))))
        have HNX := hid (HT.out.next HRW.out HBW.out hRB hlt (show RdP .int R wr sk [.int .i64 y0] wT from HV.out) H3.out o5 g5 gg5)
        clear o5 g5 gg5
        refine hK.out _ _ (hid trivial) (fun hHeld => ?_)
        clear hK K
        simp only [Act.put, List.getElem_toArray, List.getElem_cons_succ, List.getElem_cons_zero, List.setIfInBounds_toArray, List.set_cons_succ, List.set_cons_zero]
        refine wpAnyH_take (i := 8) (v := (.pointer (some ⟨B, i, none⟩))) rfl (by kernel_rfl) (by kernel_rfl) (by kernel_rfl) (fun _ _ _ h => (show False from h).elim) ?xyRLint5 ?xhRLint5 ?xrRLint5
        case xhRLint5 => exact hHeld
        case xyRLint5 => exact Or.inl ⟨by rfl, fun W9 hW => by clear hHeld; simp only [List.getElem_toArray, List.getElem_cons_succ, List.getElem_cons_zero]; go_simp⟩
        simp only [Act.put, List.getElem_toArray, List.getElem_cons_succ, List.getElem_cons_zero, List.setIfInBounds_toArray, List.set_cons_succ, List.set_cons_zero]
        obtain ⟨q0, q1⟩ := row_at HF4.out HLI.out
        refine wpAnyH_ready (rs := [9]) (by kernel_rfl) (by simp) ?_
        refine AllReadyH.cons rfl (fun K hK => ?_) AllReadyH.nil
        go_simp
        refine hK.out _ _ (hid trivial) (fun hHeld => ?_)
        clear hK K
        refine wpAnyH_done (by kernel_rfl) ?_ _
        refine NoPanic.normal ?_
        clear q0 q1
        generalize w'.setCell ⟨B, i, none⟩ (.slice (some ⟨g, 0, none⟩) (k + 1) cap) = w5 at *
        obtain ⟨p0, p1⟩ := one_cell HZ5.out
        have CE := hid (err_any w5 R _ _ HNX.out.1)
        obtain ⟨ev, hev⟩ : ∃ ev, ev = (rdF .int sk).2.2 := ⟨_, rfl⟩
        rw [← hev] at CE
        by_cases h0 : ev = 0
        · have HNE := hid (HNX.out.2.1 (by rw [← hev]; exact h0))
          subst h0
          clear hev
          go_wp2_with (first | (go_at_call 158; refine CE.out.mono ?_; rintro en w6 ⟨rfl, rfl⟩))
          go_roundw
          case rel => exact ⟨k + 1, _, _, _, _, by go_num, HZ5.out, HNE.out⟩
          case measure => simp [intOf]; omega
        · have HNE := hid (HNX.out.2.2 (by rw [← hev]; exact h0) hn5)
          have hbe : (ev != 0) = true := by simp [h0]
          clear hev
          go_wp2_with (first | (go_at_call 158; refine CE.out.mono ?_; rintro en w6 ⟨rfl, rfl⟩))
          (try simp only [Exit.inBlock, Exit.then]); refine bodyPost_ret (results_none rfl _ _ _) rfl ?_
          obtain ⟨m1, m2, m3, m4⟩ := HNE.out
          refine ⟨rfl, .slice (some ⟨g, 0, none⟩) (k + 1) cap, ?_, m2, ?_, m4⟩
          · simp only [rdF]; rw [← HN.out.1, ← HN.out.2]; exact m1
          · simp only [rdF]; rw [← HN.out.1, ← HN.out.2]; exact m3
      · go_simp
        go_wp2_with (first | (go_at_call 89; refine CN.out.mono ?_; rintro en wT ⟨v, rfl, hv⟩; obtain ⟨y0, rfl⟩ := form_int (EncN.enc _ hv.1); have HV := hid (HUD.out _ _ hv); have HZT := hid ((hv.2.2.block w.heap.size (lt_of_block HZd.out) (fun e => by have e9 : w.heap.size = R := e; omega)).trans HZd.out); have HFT := hid ((hv.2.2.block B (lt_of_block HFd.out) (fun e => by have e9 : B = R := e; omega)).trans HFd.out); have hdT := (World.cell?_of_block (w := Wd) (w' := wT) (a := ⟨B, i, none⟩) (hv.2.2.block B (lt_of_block HFd.out) (fun e => by have e9 : B = R := e; omega))).trans HD0.out; have HDT := hid hdT; clear hv hdT))
        refine hK.out _ _ (hid trivial) (fun hHeld => ?_)
        clear hK K
        have H3 : Hid (Below wT.heap.size wT (wT.alloc (.cells #[.int .i64 y0] 3))) := hid ((Below.refl _ _).alloc (Nat.le_refl _) _)
        have HR3 := hid (heap_alloc_new wT (.cells #[.int .i64 y0] 3))
        have HOW : Hid ((wT.alloc (.cells #[.int .i64 y0] 3)).ownsRow (w.heap.size + 1) 3 1 (.slice ao k c) k (M.map (·.1)).flatten) := hid (own_old (own_keep (X := fun j => j = R) HT.out.own (show Keep _ wr wT from HV.out.2.2) (fun j e e9 => by have e8 : j = R := e9; have := (HT.out.own.lt j e).1; omega)) H3.out)
        have HSZ : Hid (w.heap.size + 1 ≤ (wT.alloc (.cells #[.int .i64 y0] 3)).heap.size) := hid (by have := lt_of_block HZT.out; have := H3.out.size; show _ ≤ _; omega)
        refine wpAnyH_ready (rs := [3, 6]) (by kernel_rfl) (by simp) ?_
        refine AllReadyH.cons rfl (fun K hK => ?_) (AllReadyH.cons rfl (fun K hK => ?_) AllReadyH.nil)
        · have d1 := HDT.out
          go_simp
          refine hK.out _ _ (hid trivial) (fun hHeld => ?_)
          clear hK K d1
          refine wpAnyH_ready (rs := [6]) (by kernel_rfl) (by simp) ?_
          refine AllReadyH.cons rfl (fun K hK => ?_) AllReadyH.nil
          go_simp
          refine hK.out _ _ (hid trivial) (fun hHeld => ?_)
          clear hK K
          refine wpAnyH_ready (rs := [7]) (by kernel_rfl) (by simp) ?_
          refine AllReadyH.cons rfl (fun K hK => ?_) AllReadyH.nil
          refine step_app1 (by rfl) (.tmp 14) (.tmp 17) 37 (by rfl) (w.heap.size + 1) 3 Tryz.underlying37 HI0.out.1 HI0.out.2.1 HI0.out.2.2.1 HI0.out.2.2.2 (by simp [Value.cells]) (by decide) _ k _ (by rfl) HOW.out wT.heap.size [.int .i64 y0] (by rfl) HR3.out rfl (fun u hu => by simp only [List.mem_cons, List.not_mem_nil, or_false] at hu; subst hu; rfl) (by omega) (by decide) HSZ.out (fun g cap w' o5 g5 gg5 => ?_)
          have HF4 : Hid (w'.heap[B]? = some (.cells (cs.set i (.slice ao k c)).toArray t (0, 0))) := hid (heap_kept g5 ((H3.out.block B (lt_of_block HFT.out)).trans HFT.out) (fun e => by have := (HT.out.own.lt B e.symm).1; omega))
          have HZ5 : Hid ((w'.setCell ⟨B, i, none⟩ (.slice (some ⟨g, 0, none⟩) (k + 1) cap)).heap[w.heap.size]? = some (.cells #[.pointer (some ⟨R, 0, none⟩)] 85 (0, 0))) := hid (heap_kept (grown_set w' ⟨B, i, none⟩ _) (heap_kept g5 ((H3.out.block _ (lt_of_block HZT.out)).trans HZT.out) (fun e => by have := (HT.out.own.lt _ e.symm).1; omega)) (fun e => by have e9 : w.heap.size = B := (by simpa using e); exact Nat.lt_irrefl _ (Nat.lt_of_lt_of_le HBW.out (Nat.le_of_eq e9))))
          have HNX := hid (HT.out.next HRW.out HBW.out hRB hlt (show RdP .int R wr sk [.int .i64 y0] wT from HV.out) H3.out o5 g5 gg5)
          clear o5 g5 gg5
          refine hK.out _ _ (hid trivial) (fun hHeld => ?_)
          clear hK K
          simp only [Act.put, List.getElem_toArray, List.getElem_cons_succ, List.getElem_cons_zero, List.setIfInBounds_toArray, List.set_cons_succ, List.set_cons_zero]
          refine wpAnyH_take (i := 8) (v := (.pointer (some ⟨B, i, none⟩))) rfl (by kernel_rfl) (by kernel_rfl) (by kernel_rfl) (fun _ _ _ h => (show False from h).elim) ?xyRLint6 ?xhRLint6 ?xrRLint6
          case xhRLint6 => exact hHeld
          case xyRLint6 => exact Or.inl ⟨by rfl, fun W9 hW => by clear hHeld; simp only [List.getElem_toArray, List.getElem_cons_succ, List.getElem_cons_zero]; go_simp⟩
          simp only [Act.put, List.getElem_toArray, List.getElem_cons_succ, List.getElem_cons_zero, List.setIfInBounds_toArray, List.set_cons_succ, List.set_cons_zero]
          obtain ⟨q0, q1⟩ := row_at HF4.out HLI.out
          refine wpAnyH_ready (rs := [9]) (by kernel_rfl) (by simp) ?_
          refine AllReadyH.cons rfl (fun K hK => ?_) AllReadyH.nil
          go_simp
          refine hK.out _ _ (hid trivial) (fun hHeld => ?_)
          clear hK K
          refine wpAnyH_done (by kernel_rfl) ?_ _
          refine NoPanic.normal ?_
          clear q0 q1
          generalize w'.setCell ⟨B, i, none⟩ (.slice (some ⟨g, 0, none⟩) (k + 1) cap) = w5 at *
          obtain ⟨p0, p1⟩ := one_cell HZ5.out
          have CE := hid (err_any w5 R _ _ HNX.out.1)
          obtain ⟨ev, hev⟩ : ∃ ev, ev = (rdF .int sk).2.2 := ⟨_, rfl⟩
          rw [← hev] at CE
          by_cases h0 : ev = 0
          · have HNE := hid (HNX.out.2.1 (by rw [← hev]; exact h0))
            subst h0
            clear hev
            go_wp2_with (first | (go_at_call 158; refine CE.out.mono ?_; rintro en w6 ⟨rfl, rfl⟩))
            go_roundw
            case rel => exact ⟨k + 1, _, _, _, _, by go_num, HZ5.out, HNE.out⟩
            case measure => simp [intOf]; omega
          · have HNE := hid (HNX.out.2.2 (by rw [← hev]; exact h0) hn5)
            have hbe : (ev != 0) = true := by simp [h0]
            clear hev
            go_wp2_with (first | (go_at_call 158; refine CE.out.mono ?_; rintro en w6 ⟨rfl, rfl⟩))
            (try simp only [Exit.inBlock, Exit.then]); refine bodyPost_ret (results_none rfl _ _ _) rfl ?_
            obtain ⟨m1, m2, m3, m4⟩ := HNE.out
            refine ⟨rfl, .slice (some ⟨g, 0, none⟩) (k + 1) cap, ?_, m2, ?_, m4⟩
            · simp only [rdF]; rw [← HN.out.1, ← HN.out.2]; exact m1
            · simp only [rdF]; rw [← HN.out.1, ← HN.out.2]; exact m3
        · skip
          go_simp
          refine hK.out _ _ (hid trivial) (fun hHeld => ?_)
          clear hK K
          have d2 := (World.cell?_of_block (w := wT) (w' := wT.alloc (.cells #[.int .i64 y0] 3)) (a := ⟨B, i, none⟩) (H3.out.block B (lt_of_block HFT.out))).trans HDT.out
          refine wpAnyH_ready (rs := [3]) (by kernel_rfl) (by simp) ?_
          refine AllReadyH.cons rfl (fun K hK => ?_) AllReadyH.nil
          go_simp
          refine hK.out _ _ (hid trivial) (fun hHeld => ?_)
          clear hK K
          clear d2
          refine wpAnyH_ready (rs := [7]) (by kernel_rfl) (by simp) ?_
          refine AllReadyH.cons rfl (fun K hK => ?_) AllReadyH.nil
          refine step_app1 (by rfl) (.tmp 14) (.tmp 17) 37 (by rfl) (w.heap.size + 1) 3 Tryz.underlying37 HI0.out.1 HI0.out.2.1 HI0.out.2.2.1 HI0.out.2.2.2 (by simp [Value.cells]) (by decide) _ k _ (by rfl) HOW.out wT.heap.size [.int .i64 y0] (by rfl) HR3.out rfl (fun u hu => by simp only [List.mem_cons, List.not_mem_nil, or_false] at hu; subst hu; rfl) (by omega) (by decide) HSZ.out (fun g cap w' o5 g5 gg5 => ?_)
          have HF4 : Hid (w'.heap[B]? = some (.cells (cs.set i (.slice ao k c)).toArray t (0, 0))) := hid (heap_kept g5 ((H3.out.block B (lt_of_block HFT.out)).trans HFT.out) (fun e => by have := (HT.out.own.lt B e.symm).1; omega))
          have HZ5 : Hid ((w'.setCell ⟨B, i, none⟩ (.slice (some ⟨g, 0, none⟩) (k + 1) cap)).heap[w.heap.size]? = some (.cells #[.pointer (some ⟨R, 0, none⟩)] 85 (0, 0))) := hid (heap_kept (grown_set w' ⟨B, i, none⟩ _) (heap_kept g5 ((H3.out.block _ (lt_of_block HZT.out)).trans HZT.out) (fun e => by have := (HT.out.own.lt _ e.symm).1; omega)) (fun e => by have e9 : w.heap.size = B := (by simpa using e); exact Nat.lt_irrefl _ (Nat.lt_of_lt_of_le HBW.out (Nat.le_of_eq e9))))
          have HNX := hid (HT.out.next HRW.out HBW.out hRB hlt (show RdP .int R wr sk [.int .i64 y0] wT from HV.out) H3.out o5 g5 gg5)
          clear o5 g5 gg5
          refine hK.out _ _ (hid trivial) (fun hHeld => ?_)
          clear hK K
          simp only [Act.put, List.getElem_toArray, List.getElem_cons_succ, List.getElem_cons_zero, List.setIfInBounds_toArray, List.set_cons_succ, List.set_cons_zero]
          refine wpAnyH_take (i := 8) (v := (.pointer (some ⟨B, i, none⟩))) rfl (by kernel_rfl) (by kernel_rfl) (by kernel_rfl) (fun _ _ _ h => (show False from h).elim) ?xyRLint7 ?xhRLint7 ?xrRLint7
          case xhRLint7 => exact hHeld
          case xyRLint7 => exact Or.inl ⟨by rfl, fun W9 hW => by clear hHeld; simp only [List.getElem_toArray, List.getElem_cons_succ, List.getElem_cons_zero]; go_simp⟩
          simp only [Act.put, List.getElem_toArray, List.getElem_cons_succ, List.getElem_cons_zero, List.setIfInBounds_toArray, List.set_cons_succ, List.set_cons_zero]
          obtain ⟨q0, q1⟩ := row_at HF4.out HLI.out
          refine wpAnyH_ready (rs := [9]) (by kernel_rfl) (by simp) ?_
          refine AllReadyH.cons rfl (fun K hK => ?_) AllReadyH.nil
          go_simp
          refine hK.out _ _ (hid trivial) (fun hHeld => ?_)
          clear hK K
          refine wpAnyH_done (by kernel_rfl) ?_ _
          refine NoPanic.normal ?_
          clear q0 q1
          generalize w'.setCell ⟨B, i, none⟩ (.slice (some ⟨g, 0, none⟩) (k + 1) cap) = w5 at *
          obtain ⟨p0, p1⟩ := one_cell HZ5.out
          have CE := hid (err_any w5 R _ _ HNX.out.1)
          obtain ⟨ev, hev⟩ : ∃ ev, ev = (rdF .int sk).2.2 := ⟨_, rfl⟩
          rw [← hev] at CE
          by_cases h0 : ev = 0
          · have HNE := hid (HNX.out.2.1 (by rw [← hev]; exact h0))
            subst h0
            clear hev
            go_wp2_with (first | (go_at_call 158; refine CE.out.mono ?_; rintro en w6 ⟨rfl, rfl⟩))
            go_roundw
            case rel => exact ⟨k + 1, _, _, _, _, by go_num, HZ5.out, HNE.out⟩
            case measure => simp [intOf]; omega
          · have HNE := hid (HNX.out.2.2 (by rw [← hev]; exact h0) hn5)
            have hbe : (ev != 0) = true := by simp [h0]
            clear hev
            go_wp2_with (first | (go_at_call 158; refine CE.out.mono ?_; rintro en w6 ⟨rfl, rfl⟩))
            (try simp only [Exit.inBlock, Exit.then]); refine bodyPost_ret (results_none rfl _ _ _) rfl ?_
            obtain ⟨m1, m2, m3, m4⟩ := HNE.out
            refine ⟨rfl, .slice (some ⟨g, 0, none⟩) (k + 1) cap, ?_, m2, ?_, m4⟩
            · simp only [rdF]; rw [← HN.out.1, ← HN.out.2]; exact m1
            · simp only [rdF]; rw [← HN.out.1, ← HN.out.2]; exact m3
    · obtain rfl : n = k := by omega
      have hki : ¬ (n : Int) < (n : Int) := by omega
      go_wp2_with fail
      go_end0
      obtain ⟨p1, p2⟩ := HT.out.done hn5
      refine ⟨rfl, .slice ao n c, ?_, HT.out.field, ?_, HT.out.keep⟩
      · simp only [rdF]; rw [← HN.out.1, ← HN.out.2]; exact p1
      · simp only [rdF]; rw [← HN.out.1, ← HN.out.2]; exact p2

end Go.Proofs.YtdfccaehoodjhaaGreat

set_option linter.unusedVariables false
set_option linter.unusedSimpArgs false
set_option maxRecDepth 100000
namespace Go.Proofs.YtdfccaehoodjhaaGreat
open Go.RowKit Go.Deep

set_option maxHeartbeats 8000000 in
theorem rColumn_any {w : World} {R : Nat} {st : Rst} (h : RAt w R st.1 st.2) (hl : st.1.length ≤ 140737488355328) :
    Calls Tryz.prog 168 #[.agg #[.pointer (some ⟨R, 0, none⟩)]] w (fun en w' => ∃ cs, en = .returned (.agg cs.toArray) ∧ RdP sColumn R w st cs w') := by
  have hb : Below w.heap.size w ((w.alloc (.cells #[.pointer (some ⟨R, 0, none⟩)] 85)).alloc (.cells #[.string ⟨#[]⟩, .int .i64 0, .bool false] 199)) := ((Below.refl _ _).alloc (Nat.le_refl _) _).alloc (by simp) _
  have hz := (Below.heap_alloc (w.alloc (.cells #[.pointer (some ⟨R, 0, none⟩)] 85)) (.cells #[.string ⟨#[]⟩, .int .i64 0, .bool false] 199) w.heap.size (by simp)).trans (heap_alloc_new w (.cells #[.pointer (some ⟨R, 0, none⟩)] 85))
  have hB := heap_alloc2_new w (.cells #[.pointer (some ⟨R, 0, none⟩)] 85) (.cells #[.string ⟨#[]⟩, .int .i64 0, .bool false] 199)
  obtain ⟨B, hBe⟩ : ∃ B, B = w.heap.size + 1 := ⟨_, rfl⟩
  have hRw := h.lt
  have hRB : R < B := by omega
  have HR0 := hid (h.old hb)
  rw [← hBe] at hB
  have HB0 := hid hB
  have HX0 := hid hz
  have HBW := hid hb
  have HL0 := hid hl
  clear h hb hz hB hl
  go_enter Tryz.func168, Tryz.ntmps168
  go_upto_region 1 with fail
  generalize (w.alloc (.cells #[.pointer (some ⟨R, 0, none⟩)] 85)).alloc (.cells #[.string ⟨#[]⟩, .int .i64 0, .bool false] 199) = w0 at *
  try rw [← hBe]
  have HK0 : Hid (Keep (fun j => j = R ∨ j = B) w0 w0) := hid (Keep.refl _ _)
  have HBE := hid hBe
  clear hBe
  have y0 := (one_cell HX0.out).1
  have CQ := hid (rtake_name 0 HR0.out HL0.out HB0.out rfl hRB)
  go_upto_region 2 with (first | (go_at_call 104; refine CQ.out.mono ?_; rintro en w1 ⟨rfl, v0, hv⟩; have HV0 := hid hv; clear hv))
  clear CQ y0
  have HB1 : Hid (w1.heap[B]? = some (.cells #[v0, .int .i64 0, .bool false] 199 (0, 0))) := HV0.out.2.1
  have HR1 : Hid (RAt w1 R (rdF .name st).2.1 (rdF .name st).2.2) := HV0.out.2.2.1
  have HL1 : Hid ((rdF .name st).2.1.length ≤ 140737488355328) := hid (Nat.le_trans (rd_len _ _) HL0.out)
  have HX1 := hid ((HV0.out.2.2.2.block w.heap.size (lt_of_block HX0.out) (fun e => by have e9 : w.heap.size = R ∨ w.heap.size = B := e; have := HBE.out; omega)).trans HX0.out)
  have HK1 := hid (HK0.out.trans HV0.out.2.2.2)
  have HE0_1 : Hid (EncN (fun j => B < j ∧ j < w1.heap.size) w1 .name [v0] (rdF .name st).1) := hid (EncN.mono (fun j hj => ⟨Nat.lt_of_lt_of_le (lt_of_block HB0.out) hj.1, hj.2⟩) _ HV0.out.1)
  have y0 := (one_cell HX1.out).1
  have CQ := hid (rtake_whole 1 HR1.out HL1.out HB1.out rfl hRB)
  go_upto_region 3 with (first | (go_at_call 88; refine CQ.out.mono ?_; rintro en w2 ⟨rfl, v1, hv⟩; have HV1 := hid hv; clear hv))
  clear CQ y0
  have HB2 : Hid (w2.heap[B]? = some (.cells #[v0, v1, .bool false] 199 (0, 0))) := HV1.out.2.1
  have HR2 : Hid (RAt w2 R (rdF .int (rdF .name st).2).2.1 (rdF .int (rdF .name st).2).2.2) := HV1.out.2.2.1
  have HL2 : Hid ((rdF .int (rdF .name st).2).2.1.length ≤ 140737488355328) := hid (Nat.le_trans (rd_len _ _) HL1.out)
  have HX2 := hid ((HV1.out.2.2.2.block w.heap.size (lt_of_block HX1.out) (fun e => by have e9 : w.heap.size = R ∨ w.heap.size = B := e; have := HBE.out; omega)).trans HX1.out)
  have HK2 := hid (HK1.out.trans HV1.out.2.2.2)
  have HE1_2 : Hid (EncN (fun j => B < j ∧ j < w2.heap.size) w2 .int [v1] (rdF .int (rdF .name st).2).1) := hid (EncN.mono (fun j hj => ⟨Nat.lt_of_lt_of_le (lt_of_block HB1.out) hj.1, hj.2⟩) _ HV1.out.1)
  have HE0_2 : Hid (EncN (fun j => B < j ∧ j < w2.heap.size) w2 .name [v0] (rdF .name st).1) := hid (EncN.mono (fun j hj => ⟨hj.1, Nat.lt_of_lt_of_le hj.2 HV1.out.2.2.2.size⟩) _ (EncN.keep HV1.out.2.2.2 (fun j hj e => by have e9 : j = R ∨ j = B := e; have := hj.1; omega) _ HE0_1.out))
  have y0 := (one_cell HX2.out).1
  have CQ := hid (rtake_flag 2 HR2.out HL2.out HB2.out rfl hRB)
  go_upto_region 4 with (first | (go_at_call 90; refine CQ.out.mono ?_; rintro en w3 ⟨rfl, v2, hv⟩; have HV2 := hid hv; clear hv))
  clear CQ y0
  have HB3 : Hid (w3.heap[B]? = some (.cells #[v0, v1, v2] 199 (0, 0))) := HV2.out.2.1
  have HR3 : Hid (RAt w3 R (rdF .bool (rdF .int (rdF .name st).2).2).2.1 (rdF .bool (rdF .int (rdF .name st).2).2).2.2) := HV2.out.2.2.1
  have HL3 : Hid ((rdF .bool (rdF .int (rdF .name st).2).2).2.1.length ≤ 140737488355328) := hid (Nat.le_trans (rd_len _ _) HL2.out)
  have HX3 := hid ((HV2.out.2.2.2.block w.heap.size (lt_of_block HX2.out) (fun e => by have e9 : w.heap.size = R ∨ w.heap.size = B := e; have := HBE.out; omega)).trans HX2.out)
  have HK3 := hid (HK2.out.trans HV2.out.2.2.2)
  have HE2_3 : Hid (EncN (fun j => B < j ∧ j < w3.heap.size) w3 .bool [v2] (rdF .bool (rdF .int (rdF .name st).2).2).1) := hid (EncN.mono (fun j hj => ⟨Nat.lt_of_lt_of_le (lt_of_block HB2.out) hj.1, hj.2⟩) _ HV2.out.1)
  have HE0_3 : Hid (EncN (fun j => B < j ∧ j < w3.heap.size) w3 .name [v0] (rdF .name st).1) := hid (EncN.mono (fun j hj => ⟨hj.1, Nat.lt_of_lt_of_le hj.2 HV2.out.2.2.2.size⟩) _ (EncN.keep HV2.out.2.2.2 (fun j hj e => by have e9 : j = R ∨ j = B := e; have := hj.1; omega) _ HE0_2.out))
  have HE1_3 : Hid (EncN (fun j => B < j ∧ j < w3.heap.size) w3 .int [v1] (rdF .int (rdF .name st).2).1) := hid (EncN.mono (fun j hj => ⟨hj.1, Nat.lt_of_lt_of_le hj.2 HV2.out.2.2.2.size⟩) _ (EncN.keep HV2.out.2.2.2 (fun j hj e => by have e9 : j = R ∨ j = B := e; have := hj.1; omega) _ HE1_2.out))
  obtain ⟨y0, rfl⟩ := form_name (EncN.enc _ HE0_3.out)
  obtain ⟨y1, rfl⟩ := form_int (EncN.enc _ HE1_3.out)
  obtain ⟨y2, rfl⟩ := form_bool (EncN.enc _ HE2_3.out)
  obtain ⟨q0, r0⟩ := row_at (cs := [(.string y0), (.int .i64 y1), (.bool y2)]) HB3.out (i := 0) rfl
  obtain ⟨q1, r1⟩ := row_at (cs := [(.string y0), (.int .i64 y1), (.bool y2)]) HB3.out (i := 1) rfl
  obtain ⟨q2, r2⟩ := row_at (cs := [(.string y0), (.int .i64 y1), (.bool y2)]) HB3.out (i := 2) rfl
  have hs0 : w3.heap[B]? = some (.cells ([(.string y0), (.int .i64 y1), (.bool y2)] : List Value).toArray 199 (0, 0)) := HB3.out
  have hs1 := row_put hs0 0 (.string y0)
  have hs2 := row_put hs1 1 (.int .i64 y1)
  have hs3 := row_put hs2 2 (.bool y2)
  have hks : Keep (fun j => j = B) w3 (((w3.setCell ⟨B, 0, none⟩ (.string y0)).setCell ⟨B, 1, none⟩ (.int .i64 y1)).setCell ⟨B, 2, none⟩ (.bool y2)) := (((Keep.refl (fun j => j = B) _).trans (Keep.set (X := fun j => j = B) _ ⟨B, 0, none⟩ (.string y0) rfl)).trans (Keep.set (X := fun j => j = B) _ ⟨B, 1, none⟩ (.int .i64 y1) rfl)).trans (Keep.set (X := fun j => j = B) _ ⟨B, 2, none⟩ (.bool y2) rfl)
  have HSF : Hid ((((w3.setCell ⟨B, 0, none⟩ (.string y0)).setCell ⟨B, 1, none⟩ (.int .i64 y1)).setCell ⟨B, 2, none⟩ (.bool y2)).heap[B]? = some (.cells #[(.string y0), (.int .i64 y1), (.bool y2)] 199 (0, 0))) := hs3
  have HKS := hid hks
  clear hks hs0 hs1 hs2 hs3
  go_wp2_with fail
  refine bodyPost_ret (results_cell_row rfl _ _ B 199 _ (0, 0) _ rfl HSF.out Tryz.underlying199 rfl (by kernel_rfl)) rfl ?_
  have hfin : ∀ (s : Sh) (cs : List Value) (bs : List UInt8), EncN (fun j => B < j ∧ j < w3.heap.size) w3 s cs bs → EncN (fun j => w.heap.size ≤ j ∧ j < (((w3.setCell ⟨B, 0, none⟩ (.string y0)).setCell ⟨B, 1, none⟩ (.int .i64 y1)).setCell ⟨B, 2, none⟩ (.bool y2)).heap.size) (((w3.setCell ⟨B, 0, none⟩ (.string y0)).setCell ⟨B, 1, none⟩ (.int .i64 y1)).setCell ⟨B, 2, none⟩ (.bool y2)) s cs bs := fun s cs bs h => EncN.mono (fun j hj => ⟨by have := HBE.out; omega, Nat.lt_of_lt_of_le hj.2 HKS.out.size⟩) s (EncN.keep HKS.out (fun j hj e => by have e9 : j = B := e; have := hj.1; omega) s h)
  refine ⟨[(.string y0), (.int .i64 y1), (.bool y2)], rfl, ?_, HR3.out.keepK HKS.out (fun j e => by have e9 : j = B := e; omega), ?_⟩
  · exact ⟨[(.string y0)], [(.int .i64 y1), (.bool y2)], _, _, rfl, rfl, hfin _ _ _ HE0_3.out, ⟨[(.int .i64 y1)], [(.bool y2)], _, _, rfl, rfl, hfin _ _ _ HE1_3.out, ⟨[(.bool y2)], [], _, _, rfl, rfl, hfin _ _ _ HE2_3.out, ⟨rfl, rfl⟩⟩⟩⟩
  · exact (Keep.of_below HBW.out).trans2 (HK3.out.trans (HKS.out.mono (fun j _ e => .inr e))) (fun j e => by rcases e with e | e <;> first | exact .inl e | exact .inr (by have := HBE.out; omega))

set_option maxHeartbeats 8000000 in
theorem rlist_Column {w : World} {R B : Nat} {st : Rst} {cs : List Value} {t : TypeId} (i : Nat) (h : RAt w R st.1 st.2) (hl : st.1.length ≤ 140737488355328) (hB : w.heap[B]? = some (.cells cs.toArray t (0, 0))) (hi : cs[i]? = some (.slice none 0 0)) (hRB : R < B) :
    Calls Tryz.prog 167 #[.agg #[.pointer (some ⟨R, 0, none⟩)], .pointer (some ⟨B, i, none⟩), (.func (.func 168) #[.agg #[.pointer (some ⟨R, 0, none⟩)]] #[])] w (fun en w' => en = .returned (.tuple #[]) ∧ ∃ v, TkP (.list sColumn) R B w st cs t i v w') := by
  obtain ⟨i0, hi0, hz0, hz1, hz2⟩ : ∃ i0, Tryz.prog.info? 199 = some i0 ∧ i0.zero = some (.agg #[.string .empty, .int .i64 0, .bool false]) ∧ i0.size = 3 ∧ i0.bytes = 32 := by
    have h9 : (Tryz.prog.info? 199).map (fun i => (i.zero, i.size, i.bytes)) = some (some (.agg #[.string .empty, .int .i64 0, .bool false]), 3, 32) := by kernel_rfl
    cases hq : Tryz.prog.info? 199 with
    | none => rw [hq] at h9; cases h9
    | some q => rw [hq] at h9; simp at h9; exact ⟨q, rfl, h9⟩
  have HI0 := hid (And.intro hi0 (And.intro hz0 (And.intro hz1 hz2)))
  clear hi0 hz0 hz1 hz2
  have hb : Below w.heap.size w (w.alloc (.cells #[.pointer (some ⟨R, 0, none⟩)] 85)) := (Below.refl _ _).alloc (Nat.le_refl _) _
  have hz := heap_alloc_new w (.cells #[.pointer (some ⟨R, 0, none⟩)] 85)
  have hRw := h.lt
  have hBw := lt_of_block hB
  have HRW := hid hRw
  have HBW := hid hBw
  have H := hid (h.old hb)
  have HB := hid hb
  have HF := hid ((hb.block _ hBw).trans hB)
  have HI := hid hi
  have HZ := hid hz
  have HLE := hid hl
  clear h hB hi hb hz hl
  go_enter Tryz.func167, Tryz.ntmps167
  go_upto_region 1 with fail
  generalize w.alloc (.cells #[.pointer (some ⟨R, 0, none⟩)] 85) = w1 at *
  obtain ⟨z0, z1⟩ := one_cell HZ.out
  obtain ⟨n, hn⟩ : ∃ n, n = (lookS 5000 st.1 st.2).1 := ⟨_, rfl⟩
  obtain ⟨s1, hs1⟩ : ∃ s1 : Rst, s1 = (st.1.drop (lookS 5000 st.1 st.2).2.1, (lookS 5000 st.1 st.2).2.2) := ⟨_, rfl⟩
  have HN := hid (And.intro hn hs1)
  have hn5 : n ≤ 5000 := by rw [hn]; exact lookS_most _ _ _
  have C0 : Hid (Calls Tryz.prog 166 #[.pointer (some ⟨R, 0, none⟩), .int .i64 5000] w1 (fun en w' => en = .returned (.int .i64 (n : Int)) ∧ RAt w' R s1.1 s1.2 ∧ w1.grownBy w' (some R))) := hid ((smallR_any w1 R st.1 st.2 5000 (by decide) H.out).mono (fun en w9 h9 => by rw [hn, hs1]; exact h9))
  have HS1 : Hid (s1.1.length ≤ st.1.length) := hid (by rw [hs1]; simp)
  clear hn hs1
  go_wp2_with (first | (go_at_call 166; refine C0.out.mono ?_; rintro en w2 ⟨rfl, h2, g2⟩; have H2 := hid h2; have K2 := hid (show Keep (fun j => j = R ∨ j = B) w w2 from (Keep.of_below HB.out).trans ((Keep.of_grown (X := fun j => j = R) g2 (fun j e => by cases e; rfl)).mono (fun j _ e => .inl e))); have HF2 := hid ((g2.block B (lt_of_block HF.out) (fun e => by cases e; omega)).trans HF.out); have HZ2 := hid ((g2.block w.heap.size (lt_of_block HZ.out) (fun e => by cases e; omega)).trans HZ.out); clear h2 g2))
  clear z0 z1 C0
  go_loopw [9] (fun ix wr => ∃ (k : Nat) (M : List (List Value × List UInt8)) (ao : Option Addr) (c : Nat) (sk : Rst), ix = .int .i64 (k : Int) ∧ wr.heap[w.heap.size]? = some (.cells #[.pointer (some ⟨R, 0, none⟩)] 85 (0, 0)) ∧ TLp sColumn 199 R B i w cs t n s1 wr k M ao c sk) (fun ix _ => n - (intOf ix).toNat)
  case atStart => exact ⟨0, [], none, 0, s1, rfl, HZ2.out, TLp.begin HI.out HF2.out H2.out K2.out⟩
  case round =>
    obtain ⟨k, M, ao, c, sk, rfl, hzr, ht⟩ := hrel
    have hk := ht.le
    have HT := hid ht
    have HZR := hid hzr
    clear ht hzr
    by_cases hlt : k < n
    · have hki : (k : Int) < (n : Int) := by omega
      go_upto_region 3 with fail
      have hWd : Below wr.heap.size wr wr.drew := ⟨rfl, rfl, rfl, Nat.le_refl _, fun _ _ => rfl⟩
      have HLk : Hid (sk.1.length ≤ 140737488355328) := hid (by have := HT.out.small; have := HS1.out; have := HLE.out; omega)
      have HTd : Hid (RAt wr.drew R sk.1 sk.2) := hid (HT.out.rat.old hWd)
      have HFd : Hid (wr.drew.heap[B]? = some (.cells (cs.set i (.slice ao k c)).toArray t (0, 0))) := HT.out.field
      have hli : (cs.set i (.slice ao k c))[i]? = some (.slice ao k c) := List.getElem?_set_self (List.getElem?_eq_some_iff.1 HI.out).1
      have HLI := hid hli
      clear hli
      have CN := hid (rColumn_any HTd.out HLk.out)
      have HUD : Hid (∀ mc w9, RdP sColumn R wr.drew sk mc w9 → RdP sColumn R wr sk mc w9) := hid fun _ _ h => h.undrew
      have HZd : Hid (wr.drew.heap[w.heap.size]? = some (.cells #[.pointer (some ⟨R, 0, none⟩)] 85 (0, 0))) := HZR.out
      refine wp_region_noPanic ?_
      refine wp_region_held_drew (S := fun _ => Hid True) (by kernel_rfl) (hid trivial) (fun hHeld => ?_)
      clear hWd
      obtain ⟨d0, d1⟩ := row_at HFd.out HLI.out
      generalize wr.drew = Wd at *
      have HD0 := hid d0
      clear d0 d1
      refine wpAnyH_take (i := 0) (v := (.pointer (some ⟨B, i, none⟩))) rfl (by kernel_rfl) (by kernel_rfl) (by kernel_rfl) (fun _ _ _ h => (show False from h).elim) ?xyRLColumn1 ?xhRLColumn1 ?xrRLColumn1
      case xhRLColumn1 => exact hHeld
      case xyRLColumn1 => exact Or.inl ⟨by rfl, fun W9 hW => by clear hHeld; simp only [List.getElem_toArray, List.getElem_cons_succ, List.getElem_cons_zero]; go_simp⟩
      simp only [Act.put, List.getElem_toArray, List.getElem_cons_succ, List.getElem_cons_zero, List.setIfInBounds_toArray, List.set_cons_succ, List.set_cons_zero]
      refine wpAnyH_take (i := 1) (v := (.pointer (some ⟨B, i, none⟩))) rfl (by kernel_rfl) (by kernel_rfl) (by kernel_rfl) (fun _ _ _ h => (show False from h).elim) ?xyRLColumn2 ?xhRLColumn2 ?xrRLColumn2
      case xhRLColumn2 => exact hHeld
      case xyRLColumn2 => exact Or.inl ⟨by rfl, fun W9 hW => by clear hHeld; simp only [List.getElem_toArray, List.getElem_cons_succ, List.getElem_cons_zero]; go_simp⟩
      simp only [Act.put, List.getElem_toArray, List.getElem_cons_succ, List.getElem_cons_zero, List.setIfInBounds_toArray, List.set_cons_succ, List.set_cons_zero]
      refine wpAnyH_take (i := 2) (v := (.pointer (some ⟨B, i, none⟩))) rfl (by kernel_rfl) (by kernel_rfl) (by kernel_rfl) (fun _ _ _ h => (show False from h).elim) ?xyRLColumn3 ?xhRLColumn3 ?xrRLColumn3
      case xhRLColumn3 => exact hHeld
      case xyRLColumn3 => exact Or.inl ⟨by rfl, fun W9 hW => by clear hHeld; simp only [List.getElem_toArray, List.getElem_cons_succ, List.getElem_cons_zero]; go_simp⟩
      simp only [Act.put, List.getElem_toArray, List.getElem_cons_succ, List.getElem_cons_zero, List.setIfInBounds_toArray, List.set_cons_succ, List.set_cons_zero]
      refine wpAnyH_take (i := 4) (v := (.func (.func 168) #[.agg #[.pointer (some ⟨R, 0, none⟩)]] #[])) rfl (by kernel_rfl) (by kernel_rfl) (by kernel_rfl) (fun _ _ _ h => (show False from h).elim) ?xyRLColumn4 ?xhRLColumn4 ?xrRLColumn4
      case xhRLColumn4 => exact hHeld
      case xyRLColumn4 => exact Or.inl ⟨by rfl, fun W9 hW => by clear hHeld; simp only [List.getElem_toArray, List.getElem_cons_succ, List.getElem_cons_zero]; go_simp⟩
      simp only [Act.put, List.getElem_toArray, List.getElem_cons_succ, List.getElem_cons_zero, List.setIfInBounds_toArray, List.set_cons_succ, List.set_cons_zero]
      refine wpAnyH_ready (rs := [3, 5]) (by kernel_rfl) (by simp) ?_
      refine AllReadyH.cons rfl (fun K hK => ?_) (AllReadyH.cons rfl (fun K hK => ?_) AllReadyH.nil)
      · have d0 := HD0.out
        go_simp
        refine hK.out _ _ (hid trivial) (fun hHeld => ?_)
        clear hK K d0
        refine wpAnyH_ready (rs := [5]) (by kernel_rfl) (by simp) ?_
        refine AllReadyH.cons rfl (fun K hK => ?_) AllReadyH.nil
        go_simp
        go_wp2_with (first | (go_at_call 168; refine CN.out.mono ?_; rintro en wT ⟨mc, rfl, hv⟩; obtain ⟨v0, v1, v2, b0, b1, b2, rfl, _, e0, e1, e2⟩ := Column_cells (EncN.enc _ hv.1); obtain ⟨y0, rfl⟩ := form_name e0; obtain ⟨y1, rfl⟩ := form_int e1; obtain ⟨y2, rfl⟩ := form_bool e2; clear e0 e1 e2; have HV := hid (HUD.out _ _ hv); have HZT := hid ((hv.2.2.block w.heap.size (lt_of_block HZd.out) (fun e => by have e9 : w.heap.size = R := e; omega)).trans HZd.out); have HFT := hid ((hv.2.2.block B (lt_of_block HFd.out) (fun e => by have e9 : B = R := e; omega)).trans HFd.out); have hdT := (World.cell?_of_block (w := Wd) (w' := wT) (a := ⟨B, i, none⟩) (hv.2.2.block B (lt_of_block HFd.out) (fun e => by have e9 : B = R := e; omega))).trans HD0.out; have HDT := hid hdT; clear hv hdT))
        refine hK.out _ _ (hid trivial) (fun hHeld => ?_)
        clear hK K
        have H3 : Hid (Below wT.heap.size wT (wT.alloc (.cells #[.string y0, .int .i64 y1, .bool y2] 199))) := hid ((Below.refl _ _).alloc (Nat.le_refl _) _)
        have HR3 := hid (heap_alloc_new wT (.cells #[.string y0, .int .i64 y1, .bool y2] 199))
        have HOW : Hid ((wT.alloc (.cells #[.string y0, .int .i64 y1, .bool y2] 199)).ownsRow (w.heap.size + 1) 199 3 (.slice ao k c) k (M.map (·.1)).flatten) := hid (own_old (own_keep (X := fun j => j = R) HT.out.own (show Keep _ wr wT from HV.out.2.2) (fun j e e9 => by have e8 : j = R := e9; have := (HT.out.own.lt j e).1; omega)) H3.out)
        have HSZ : Hid (w.heap.size + 1 ≤ (wT.alloc (.cells #[.string y0, .int .i64 y1, .bool y2] 199)).heap.size) := hid (by have := lt_of_block HZT.out; have := H3.out.size; show _ ≤ _; omega)
        refine wpAnyH_ready (rs := [6]) (by kernel_rfl) (by simp) ?_
        refine AllReadyH.cons rfl (fun K hK => ?_) AllReadyH.nil
        go_simp
        refine hK.out _ _ (hid trivial) (fun hHeld => ?_)
        clear hK K
        refine wpAnyH_ready (rs := [7]) (by kernel_rfl) (by simp) ?_
        refine AllReadyH.cons rfl (fun K hK => ?_) AllReadyH.nil
        refine step_app1 (by rfl) (.tmp 14) (.tmp 17) 36 (by rfl) (w.heap.size + 1) 199 Tryz.underlying36 HI0.out.1 HI0.out.2.1 HI0.out.2.2.1 HI0.out.2.2.2 (by simp [Value.cells]) (by decide) _ k _ (by rfl) HOW.out wT.heap.size [.string y0, .int .i64 y1, .bool y2] (by rfl) HR3.out rfl (fun u hu => by simp only [List.mem_cons, List.not_mem_nil, or_false] at hu; rcases hu with rfl | rfl | rfl <;> rfl) (by omega) (by decide) HSZ.out (fun g cap w' o5 g5 gg5 => ?_)
        have HF4 : Hid (w'.heap[B]? = some (.cells (cs.set i (.slice ao k c)).toArray t (0, 0))) := hid (heap_kept g5 ((H3.out.block B (lt_of_block HFT.out)).trans HFT.out) (fun e => by have := (HT.out.own.lt B e.symm).1; omega))
        have HZ5 : Hid ((w'.setCell ⟨B, i, none⟩ (.slice (some ⟨g, 0, none⟩) (k + 1) cap)).heap[w.heap.size]? = some (.cells #[.pointer (some ⟨R, 0, none⟩)] 85 (0, 0))) := hid (heap_kept (grown_set w' ⟨B, i, none⟩ _) (heap_kept g5 ((H3.out.block _ (lt_of_block HZT.out)).trans HZT.out) (fun e => by have := (HT.out.own.lt _ e.symm).1; omega)) (fun e => by have e9 : w.heap.size = B := (by simpa using e); exact Nat.lt_irrefl _ (Nat.lt_of_lt_of_le HBW.out (Nat.le_of_eq e9))))
        have HNX := hid (HT.out.next HRW.out HBW.out hRB hlt (show RdP sColumn R wr sk [.string y0, .int .i64 y1, .bool y2] wT from HV.out) H3.out o5 g5 gg5)
        clear o5 g5 gg5
        refine hK.out _ _ (hid trivial) (fun hHeld => ?_)
        clear hK K
        simp only [Act.put, List.getElem_toArray, List.getElem_cons_succ, List.getElem_cons_zero, List.setIfInBounds_toArray, List.set_cons_succ, List.set_cons_zero]
        refine wpAnyH_take (i := 8) (v := (.pointer (some ⟨B, i, none⟩))) rfl (by kernel_rfl) (by kernel_rfl) (by kernel_rfl) (fun _ _ _ h => (show False from h).elim) ?xyRLColumn5 ?xhRLColumn5 ?xrRLColumn5
        case xhRLColumn5 => exact hHeld
        case xyRLColumn5 => exact Or.inl ⟨by rfl, fun W9 hW => by clear hHeld; simp only [List.getElem_toArray, List.getElem_cons_succ, List.getElem_cons_zero]; go_simp⟩
        simp only [Act.put, List.getElem_toArray, List.getElem_cons_succ, List.getElem_cons_zero, List.setIfInBounds_toArray, List.set_cons_succ, List.set_cons_zero]
        obtain ⟨q0, q1⟩ := row_at HF4.out HLI.out
        refine wpAnyH_ready (rs := [9]) (by kernel_rfl) (by simp) ?_
        refine AllReadyH.cons rfl (fun K hK => ?_) AllReadyH.nil
        go_simp
        refine hK.out _ _ (hid trivial) (fun hHeld => ?_)
        clear hK K
        refine wpAnyH_done (by kernel_rfl) ?_ _
        refine NoPanic.normal ?_
        clear q0 q1
        generalize w'.setCell ⟨B, i, none⟩ (.slice (some ⟨g, 0, none⟩) (k + 1) cap) = w5 at *
        obtain ⟨p0, p1⟩ := one_cell HZ5.out
        have CE := hid (err_any w5 R _ _ HNX.out.1)
        obtain ⟨ev, hev⟩ : ∃ ev, ev = (rdF sColumn sk).2.2 := ⟨_, rfl⟩
        rw [← hev] at CE
        by_cases h0 : ev = 0
        · have HNE := hid (HNX.out.2.1 (by rw [← hev]; exact h0))
          subst h0
          clear hev
          go_wp2_with (first | (go_at_call 158; refine CE.out.mono ?_; rintro en w6 ⟨rfl, rfl⟩))
          go_roundw
          case rel => exact ⟨k + 1, _, _, _, _, by go_num, HZ5.out, HNE.out⟩
          case measure => simp [intOf]; omega
        · have HNE := hid (HNX.out.2.2 (by rw [← hev]; exact h0) hn5)
          have hbe : (ev != 0) = true := by simp [h0]
          clear hev
          go_wp2_with (first | (go_at_call 158; refine CE.out.mono ?_; rintro en w6 ⟨rfl, rfl⟩))
          (try simp only [Exit.inBlock, Exit.then]); refine bodyPost_ret (results_none rfl _ _ _) rfl ?_
          obtain ⟨m1, m2, m3, m4⟩ := HNE.out
          refine ⟨rfl, .slice (some ⟨g, 0, none⟩) (k + 1) cap, ?_, m2, ?_, m4⟩
          · simp only [rdF]; rw [← HN.out.1, ← HN.out.2]; exact m1
          · simp only [rdF]; rw [← HN.out.1, ← HN.out.2]; exact m3
      · go_simp
        go_wp2_with (first | (go_at_call 168; refine CN.out.mono ?_; rintro en wT ⟨mc, rfl, hv⟩; obtain ⟨v0, v1, v2, b0, b1, b2, rfl, _, e0, e1, e2⟩ := Column_cells (EncN.enc _ hv.1); obtain ⟨y0, rfl⟩ := form_name e0; obtain ⟨y1, rfl⟩ := form_int e1; obtain ⟨y2, rfl⟩ := form_bool e2; clear e0 e1 e2; have HV := hid (HUD.out _ _ hv); have HZT := hid ((hv.2.2.block w.heap.size (lt_of_block HZd.out) (fun e => by have e9 : w.heap.size = R := e; omega)).trans HZd.out); have HFT := hid ((hv.2.2.block B (lt_of_block HFd.out) (fun e => by have e9 : B = R := e; omega)).trans HFd.out); have hdT := (World.cell?_of_block (w := Wd) (w' := wT) (a := ⟨B, i, none⟩) (hv.2.2.block B (lt_of_block HFd.out) (fun e => by have e9 : B = R := e; omega))).trans HD0.out; have HDT := hid hdT; clear hv hdT))
        refine hK.out _ _ (hid trivial) (fun hHeld => ?_)
        clear hK K
        have H3 : Hid (Below wT.heap.size wT (wT.alloc (.cells #[.string y0, .int .i64 y1, .bool y2] 199))) := hid ((Below.refl _ _).alloc (Nat.le_refl _) _)
        have HR3 := hid (heap_alloc_new wT (.cells #[.string y0, .int .i64 y1, .bool y2] 199))
        have HOW : Hid ((wT.alloc (.cells #[.string y0, .int .i64 y1, .bool y2] 199)).ownsRow (w.heap.size + 1) 199 3 (.slice ao k c) k (M.map (·.1)).flatten) := hid (own_old (own_keep (X := fun j => j = R) HT.out.own (show Keep _ wr wT from HV.out.2.2) (fun j e e9 => by have e8 : j = R := e9; have := (HT.out.own.lt j e).1; omega)) H3.out)
        have HSZ : Hid (w.heap.size + 1 ≤ (wT.alloc (.cells #[.string y0, .int .i64 y1, .bool y2] 199)).heap.size) := hid (by have := lt_of_block HZT.out; have := H3.out.size; show _ ≤ _; omega)
        refine wpAnyH_ready (rs := [3, 6]) (by kernel_rfl) (by simp) ?_
        refine AllReadyH.cons rfl (fun K hK => ?_) (AllReadyH.cons rfl (fun K hK => ?_) AllReadyH.nil)
        · have d1 := HDT.out
          go_simp
          refine hK.out _ _ (hid trivial) (fun hHeld => ?_)
          clear hK K d1
          refine wpAnyH_ready (rs := [6]) (by kernel_rfl) (by simp) ?_
          refine AllReadyH.cons rfl (fun K hK => ?_) AllReadyH.nil
          go_simp
          refine hK.out _ _ (hid trivial) (fun hHeld => ?_)
          clear hK K
          refine wpAnyH_ready (rs := [7]) (by kernel_rfl) (by simp) ?_
          refine AllReadyH.cons rfl (fun K hK => ?_) AllReadyH.nil
          refine step_app1 (by rfl) (.tmp 14) (.tmp 17) 36 (by rfl) (w.heap.size + 1) 199 Tryz.underlying36 HI0.out.1 HI0.out.2.1 HI0.out.2.2.1 HI0.out.2.2.2 (by simp [Value.cells]) (by decide) _ k _ (by rfl) HOW.out wT.heap.size [.string y0, .int .i64 y1, .bool y2] (by rfl) HR3.out rfl (fun u hu => by simp only [List.mem_cons, List.not_mem_nil, or_false] at hu; rcases hu with rfl | rfl | rfl <;> rfl) (by omega) (by decide) HSZ.out (fun g cap w' o5 g5 gg5 => ?_)
          have HF4 : Hid (w'.heap[B]? = some (.cells (cs.set i (.slice ao k c)).toArray t (0, 0))) := hid (heap_kept g5 ((H3.out.block B (lt_of_block HFT.out)).trans HFT.out) (fun e => by have := (HT.out.own.lt B e.symm).1; omega))
          have HZ5 : Hid ((w'.setCell ⟨B, i, none⟩ (.slice (some ⟨g, 0, none⟩) (k + 1) cap)).heap[w.heap.size]? = some (.cells #[.pointer (some ⟨R, 0, none⟩)] 85 (0, 0))) := hid (heap_kept (grown_set w' ⟨B, i, none⟩ _) (heap_kept g5 ((H3.out.block _ (lt_of_block HZT.out)).trans HZT.out) (fun e => by have := (HT.out.own.lt _ e.symm).1; omega)) (fun e => by have e9 : w.heap.size = B := (by simpa using e); exact Nat.lt_irrefl _ (Nat.lt_of_lt_of_le HBW.out (Nat.le_of_eq e9))))
          have HNX := hid (HT.out.next HRW.out HBW.out hRB hlt (show RdP sColumn R wr sk [.string y0, .int .i64 y1, .bool y2] wT from HV.out) H3.out o5 g5 gg5)
          clear o5 g5 gg5
          refine hK.out _ _ (hid trivial) (fun hHeld => ?_)
          clear hK K
          simp only [Act.put, List.getElem_toArray, List.getElem_cons_succ, List.getElem_cons_zero, List.setIfInBounds_toArray, List.set_cons_succ, List.set_cons_zero]
          refine wpAnyH_take (i := 8) (v := (.pointer (some ⟨B, i, none⟩))) rfl (by kernel_rfl) (by kernel_rfl) (by kernel_rfl) (fun _ _ _ h => (show False from h).elim) ?xyRLColumn6 ?xhRLColumn6 ?xrRLColumn6
          case xhRLColumn6 => exact hHeld
          case xyRLColumn6 => exact Or.inl ⟨by rfl, fun W9 hW => by clear hHeld; simp only [List.getElem_toArray, List.getElem_cons_succ, List.getElem_cons_zero]; go_simp⟩
          simp only [Act.put, List.getElem_toArray, List.getElem_cons_succ, List.getElem_cons_zero, List.setIfInBounds_toArray, List.set_cons_succ, List.set_cons_zero]
          obtain ⟨q0, q1⟩ := row_at HF4.out HLI.out
          refine wpAnyH_ready (rs := [9]) (by kernel_rfl) (by simp) ?_
          refine AllReadyH.cons rfl (fun K hK => ?_) AllReadyH.nil
          go_simp
          refine hK.out _ _ (hid trivial) (fun hHeld => ?_)
          clear hK K
          refine wpAnyH_done (by kernel_rfl) ?_ _
          refine NoPanic.normal ?_
          clear q0 q1
          generalize w'.setCell ⟨B, i, none⟩ (.slice (some ⟨g, 0, none⟩) (k + 1) cap) = w5 at *
          obtain ⟨p0, p1⟩ := one_cell HZ5.out
          have CE := hid (err_any w5 R _ _ HNX.out.1)
          obtain ⟨ev, hev⟩ : ∃ ev, ev = (rdF sColumn sk).2.2 := ⟨_, rfl⟩
          rw [← hev] at CE
          by_cases h0 : ev = 0
          · have HNE := hid (HNX.out.2.1 (by rw [← hev]; exact h0))
            subst h0
            clear hev
            go_wp2_with (first | (go_at_call 158; refine CE.out.mono ?_; rintro en w6 ⟨rfl, rfl⟩))
            go_roundw
            case rel => exact ⟨k + 1, _, _, _, _, by go_num, HZ5.out, HNE.out⟩
            case measure => simp [intOf]; omega
          · have HNE := hid (HNX.out.2.2 (by rw [← hev]; exact h0) hn5)
            have hbe : (ev != 0) = true := by simp [h0]
            clear hev
            go_wp2_with (first | (go_at_call 158; refine CE.out.mono ?_; rintro en w6 ⟨rfl, rfl⟩))
            (try simp only [Exit.inBlock, Exit.then]); refine bodyPost_ret (results_none rfl _ _ _) rfl ?_
            obtain ⟨m1, m2, m3, m4⟩ := HNE.out
            refine ⟨rfl, .slice (some ⟨g, 0, none⟩) (k + 1) cap, ?_, m2, ?_, m4⟩
            · simp only [rdF]; rw [← HN.out.1, ← HN.out.2]; exact m1
            · simp only [rdF]; rw [← HN.out.1, ← HN.out.2]; exact m3
        · skip
          go_simp
          refine hK.out _ _ (hid trivial) (fun hHeld => ?_)
          clear hK K
          have d2 := (World.cell?_of_block (w := wT) (w' := wT.alloc (.cells #[.string y0, .int .i64 y1, .bool y2] 199)) (a := ⟨B, i, none⟩) (H3.out.block B (lt_of_block HFT.out))).trans HDT.out
          refine wpAnyH_ready (rs := [3]) (by kernel_rfl) (by simp) ?_
          refine AllReadyH.cons rfl (fun K hK => ?_) AllReadyH.nil
          go_simp
          refine hK.out _ _ (hid trivial) (fun hHeld => ?_)
          clear hK K
          clear d2
          refine wpAnyH_ready (rs := [7]) (by kernel_rfl) (by simp) ?_
          refine AllReadyH.cons rfl (fun K hK => ?_) AllReadyH.nil
          refine step_app1 (by rfl) (.tmp 14) (.tmp 17) 36 (by rfl) (w.heap.size + 1) 199 Tryz.underlying36 HI0.out.1 HI0.out.2.1 HI0.out.2.2.1 HI0.out.2.2.2 (by simp [Value.cells]) (by decide) _ k _ (by rfl) HOW.out wT.heap.size [.string y0, .int .i64 y1, .bool y2] (by rfl) HR3.out rfl (fun u hu => by simp only [List.mem_cons, List.not_mem_nil, or_false] at hu; rcases hu with rfl | rfl | rfl <;> rfl) (by omega) (by decide) HSZ.out (fun g cap w' o5 g5 gg5 => ?_)
          have HF4 : Hid (w'.heap[B]? = some (.cells (cs.set i (.slice ao k c)).toArray t (0, 0))) := hid (heap_kept g5 ((H3.out.block B (lt_of_block HFT.out)).trans HFT.out) (fun e => by have := (HT.out.own.lt B e.symm).1; omega))
          have HZ5 : Hid ((w'.setCell ⟨B, i, none⟩ (.slice (some ⟨g, 0, none⟩) (k + 1) cap)).heap[w.heap.size]? = some (.cells #[.pointer (some ⟨R, 0, none⟩)] 85 (0, 0))) := hid (heap_kept (grown_set w' ⟨B, i, none⟩ _) (heap_kept g5 ((H3.out.block _ (lt_of_block HZT.out)).trans HZT.out) (fun e => by have := (HT.out.own.lt _ e.symm).1; omega)) (fun e => by have e9 : w.heap.size = B := (by simpa using e); exact Nat.lt_irrefl _ (Nat.lt_of_lt_of_le HBW.out (Nat.le_of_eq e9))))
          have HNX := hid (HT.out.next HRW.out HBW.out hRB hlt (show RdP sColumn R wr sk [.string y0, .int .i64 y1, .bool y2] wT from HV.out) H3.out o5 g5 gg5)
          clear o5 g5 gg5
          refine hK.out _ _ (hid trivial) (fun hHeld => ?_)
          clear hK K
          simp only [Act.put, List.getElem_toArray, List.getElem_cons_succ, List.getElem_cons_zero, List.setIfInBounds_toArray, List.set_cons_succ, List.set_cons_zero]
          refine wpAnyH_take (i := 8) (v := (.pointer (some ⟨B, i, none⟩))) rfl (by kernel_rfl) (by kernel_rfl) (by kernel_rfl) (fun _ _ _ h => (show False from h).elim) ?xyRLColumn7 ?xhRLColumn7 ?xrRLColumn7
          case xhRLColumn7 => exact hHeld
          case xyRLColumn7 => exact Or.inl ⟨by rfl, fun W9 hW => by clear hHeld; simp only [List.getElem_toArray, List.getElem_cons_succ, List.getElem_cons_zero]; go_simp⟩
          simp only [Act.put, List.getElem_toArray, List.getElem_cons_succ, List.getElem_cons_zero, List.setIfInBounds_toArray, List.set_cons_succ, List.set_cons_zero]
          obtain ⟨q0, q1⟩ := row_at HF4.out HLI.out
          refine wpAnyH_ready (rs := [9]) (by kernel_rfl) (by simp) ?_
          refine AllReadyH.cons rfl (fun K hK => ?_) AllReadyH.nil
          go_simp
          refine hK.out _ _ (hid trivial) (fun hHeld => ?_)
          clear hK K
          refine wpAnyH_done (by kernel_rfl) ?_ _
          refine NoPanic.normal ?_
          clear q0 q1
          generalize w'.setCell ⟨B, i, none⟩ (.slice (some ⟨g, 0, none⟩) (k + 1) cap) = w5 at *
          obtain ⟨p0, p1⟩ := one_cell HZ5.out
          have CE := hid (err_any w5 R _ _ HNX.out.1)
          obtain ⟨ev, hev⟩ : ∃ ev, ev = (rdF sColumn sk).2.2 := ⟨_, rfl⟩
          rw [← hev] at CE
          by_cases h0 : ev = 0
          · have HNE := hid (HNX.out.2.1 (by rw [← hev]; exact h0))
            subst h0
            clear hev
            go_wp2_with (first | (go_at_call 158; refine CE.out.mono ?_; rintro en w6 ⟨rfl, rfl⟩))
            go_roundw
            case rel => exact ⟨k + 1, _, _, _, _, by go_num, HZ5.out, HNE.out⟩
            case measure => simp [intOf]; omega
          · have HNE := hid (HNX.out.2.2 (by rw [← hev]; exact h0) hn5)
            have hbe : (ev != 0) = true := by simp [h0]
            clear hev
            go_wp2_with (first | (go_at_call 158; refine CE.out.mono ?_; rintro en w6 ⟨rfl, rfl⟩))
            (try simp only [Exit.inBlock, Exit.then]); refine bodyPost_ret (results_none rfl _ _ _) rfl ?_
            obtain ⟨m1, m2, m3, m4⟩ := HNE.out
            refine ⟨rfl, .slice (some ⟨g, 0, none⟩) (k + 1) cap, ?_, m2, ?_, m4⟩
            · simp only [rdF]; rw [← HN.out.1, ← HN.out.2]; exact m1
            · simp only [rdF]; rw [← HN.out.1, ← HN.out.2]; exact m3
    · obtain rfl : n = k := by omega
      have hki : ¬ (n : Int) < (n : Int) := by omega
      go_wp2_with fail
      go_end0
      obtain ⟨p1, p2⟩ := HT.out.done hn5
      refine ⟨rfl, .slice ao n c, ?_, HT.out.field, ?_, HT.out.keep⟩
      · simp only [rdF]; rw [← HN.out.1, ← HN.out.2]; exact p1
      · simp only [rdF]; rw [← HN.out.1, ← HN.out.2]; exact p2

end Go.Proofs.YtdfccaehoodjhaaGreat

