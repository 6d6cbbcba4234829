import Derived.Deep.RegionHeld3
import Derived.Deep.AppendLies
import Derived.WalkKit
import Derived.OpenShut
import Derived.Test.YtmdgifmigikffaaGreatRows
import Derived.WalkSpells
import Derived.WalkLawsBesides
import Derived.Laws.AppendOwnNone
import Derived.ProofKit
import Derived.ShutString
import Derived.ChangeOld
import Derived.Below
import Derived.SizedLaws
import Derived.Deep.Slices
import Derived.Deep.RegionHeld
import Derived.Deep.Strs
import Derived.Lib.ConvBytes
import Derived.Laws.AppendOwn
import Derived.Deep.CutRange
import Derived.Deep.MidRow
import Derived.Great.Walk
import Derived.BigQuiet
import Derived.Deep.QuietTactic
import Derived.StillTailTactics
import Derived.Test.YtmdgifmigikffaaGreatWX1
import Derived.Test.YtmdgifmigikffaaGreatWX2
import Derived.Test.YtmdgifmigikffaaGreatWX3
set_option linter.unusedVariables false
set_option linter.unusedSimpArgs false
set_option maxRecDepth 100000
namespace Go.Proofs.YtmdgifmigikffaaGreat
open Go.RowKit Go.Deep
theorem row_at {w : World} {b : Nat} {cs : List Value} {t : TypeId} {i : Nat} {u : Value} (h : w.heap[b]? = some (.cells cs.toArray t (0, 0))) (hi : cs[i]? = some u) : w.cell? ⟨b, i, none⟩ = some u ∧ w.frozen? ⟨b, i, none⟩ = false := by
 constructor
 · simp only [World.cell?, h]; simpa using hi
 · simp [World.frozen?, h]
theorem row_put {w : World} {b : Nat} {cs : List Value} {t : TypeId} (h : w.heap[b]? = some (.cells cs.toArray t (0, 0))) (i : Nat) (v : Value) : (w.setCell ⟨b, i, none⟩ v).heap[b]? = some (.cells (cs.set i v).toArray t (0, 0)) := by
 have hlt := lt_of_block h
 have h' : w.heap[b] = .cells cs.toArray t (0, 0) := by simpa [Array.getElem?_eq_getElem hlt] using h
 show (w.heap.modify b _)[b]? = _
 rw [Array.getElem?_eq_getElem (by simpa using hlt), Array.getElem_modify_self, h']
 simp
def TkP (s : Sh) (R B : Nat) (w : World) (st : Rst) (cs : List Value) (t : TypeId) (i : Nat) (v : Value) (w' : World) : Prop :=
 EncN (fun k => w.heap.size ≤ k ∧ k < w'.heap.size) w' s [v] (rdF s st).1 ∧ w'.heap[B]? = some (.cells (cs.set i v).toArray t (0, 0)) ∧ RAt w' R (rdF s st).2.1 (rdF s st).2.2 ∧ Keep (fun k => k = R ∨ k = B) w w'
theorem RdP.undrew {s : Sh} {R : Nat} {w w' : World} {st : Rst} {cs : List Value} (h : RdP s R w.drew st cs w') : RdP s R w st cs w' := ⟨h.1, h.2.1, ⟨h.2.2.os, h.2.2.tape, h.2.2.output, h.2.2.size, h.2.2.block⟩⟩
theorem RdP.store {s : Sh} {R B : Nat} {w w' : World} {st : Rst} {cs : List Value} {t : TypeId} {v : Value} (h : RdP s R w st [v] w') (hB : w.heap[B]? = some (.cells cs.toArray t (0, 0))) (hRB : R < B) (i : Nat) :
 TkP s R B w st cs t i v (w'.setCell ⟨B, i, none⟩ v) := by
 obtain ⟨h1, h2, h3⟩ := h
 have hlt := lt_of_block hB
 have hB' : w'.heap[B]? = some (.cells cs.toArray t (0, 0)) := (h3.block B hlt (fun e => by omega)).trans hB
 have hk : Keep (fun k => k = B) w' (w'.setCell ⟨B, i, none⟩ v) := Keep.set w' ⟨B, i, none⟩ v rfl
 refine ⟨EncN.mono (fun k h => ⟨h.1, Nat.lt_of_lt_of_le h.2 hk.size⟩) s (EncN.keep hk (fun k h e => by have e' : k = B := e; have := h.1; omega) s h1), row_put hB' i v, h2.keepK hk (fun k e => by have e' : k = B := e; omega), ?_⟩
 exact (h3.mono (fun k _ e => .inl e)).trans (hk.mono (fun k _ e => .inr e))
theorem rd_len : ∀ (s : Sh) (st : Rst), (rdF s st).2.1.length ≤ st.1.length
 | .num, st => by simp only [rdF, List.length_drop]; omega
 | .int, st => by simp only [rdF, List.length_drop]; omega
 | .bool, st => by simp only [rdF, List.length_drop]; omega
 | .data, st => by simp only [rdF, List.length_drop]; omega
 | .name, st => by simp only [rdF, List.length_drop]; omega
 | .list s, st => by
  have h : ∀ n (st : Rst), (rdLF (rdF s) n st).2.2.1.length ≤ st.1.length := fun n => by
   induction n with
   | zero => intro st; exact Nat.le_refl _
   | succ n ih =>
    intro st
    have h1 := rd_len s st
    simp only [rdLF]
    split
    · exact h1
    · exact Nat.le_trans (ih _) h1
  have := h (lookS 5000 st.1 st.2).1 (st.1.drop (lookS 5000 st.1 st.2).2.1, (lookS 5000 st.1 st.2).2.2)
  simp only [rdF]
  refine Nat.le_trans this ?_
  simp
 | .nil, st => Nat.le_refl _
 | .cons s r, st => Nat.le_trans (rd_len r _) (rd_len s _)
theorem step_app1 {w : World} {ops : Array Oper} {o : Oper} {a : Act} {K : Act → World → Prop} {Q : Exit → Act → World → Prop} {E : Prop} (hgd : o.guard = none) (s x : Operand) (t : TypeId)
 (ho : o.op = .call { callee := .builtin .append, args := #[s, x], argTypes := #[t, t] })
 (base : Nat) (e : TypeId) (ht : Tryz.prog.underlying t = some (.slice e)) {i : TypeInfo} (hi : Tryz.prog.info? e = some i) {z : Value} {size bytes : Nat} (hz : i.zero = some z) (hsize : i.size = size) (hby : i.bytes = bytes) (hzs : z.cells.size = size) (hsz : 0 < size)
 (v : Value) (n : Nat) (xs : List Value) (hs : a.eval s = v) (hown : w.ownsRow base e size v n xs)
 (g0 : Nat) (r : List Value) (hx : a.eval x = .slice (some ⟨g0, 0, none⟩) 1 1) (hr : w.heap[g0]? = some (.cells r.toArray e (0, 0))) (hrl : r.length = size) (h1 : ∀ u ∈ r, u.oneCell' = true) (h63 : n + 1 ≤ 100000) (hbytes : bytes ≤ 1000) (hbase : base ≤ w.heap.size)
 (h : ∀ g cap w', w'.ownsRow base e size (.slice (some ⟨g, 0, none⟩) (n + 1) cap) (n + 1) (xs ++ r) → w.grownBy w' v.ownBlock → (v.ownBlock = some g ∨ g = w.heap.size) → K (a.put o.dst (.slice (some ⟨g, 0, none⟩) (n + 1) cap)) w') :
 if Region.wanted o (yielded ops a.tmps) = true then Oper.wp Tryz.prog o a w K Q else E := by
 have hb : (n + 1) * bytes ≤ 140737488355328 := by
  have := Nat.mul_le_mul h63 hbytes
  omega
 exact step_append_lies w hgd s x t ho base e i z size bytes ht hi hz hsize hby hzs hsz v n xs hs hown ⟨g0, 0, none⟩ 1 1 r hx (by omega) (fun j u hu => by
  rw [WideShapes.add_plain, Nat.zero_add]
  exact (row_at hr hu).1) h1 (by decide) (by unfold maxLen; omega) hb hbase _ rfl (fun g cap w' a1 a2 a3 _ => h g cap w' a1 a2 a3)
theorem rdLF_zero (f : Rst → List UInt8 × Rst) (st : Rst) : rdLF f 0 st = (0, [], st) := rfl
theorem rdLF_more (f : Rst → List UInt8 × Rst) (n : Nat) (st : Rst) (h : (f st).2.2 = 0) : rdLF f (n + 1) st = ((rdLF f n (f st).2).1 + 1, (f st).1 ++ (rdLF f n (f st).2).2.1, (rdLF f n (f st).2).2.2) := by
 rw [rdLF, if_neg (by simpa using h)]
theorem rdLF_stop (f : Rst → List UInt8 × Rst) (n : Nat) (st : Rst) (h : (f st).2.2 ≠ 0) : rdLF f (n + 1) st = (1, (f st).1, (f st).2) := by
 rw [rdLF, if_pos h]
structure TLp (s : Sh) (e : TypeId) (R B i : Nat) (w : World) (cs : List Value) (t : TypeId) (n : Nat) (st : Rst) (wr : World) (k : Nat) (M : List (List Value × List UInt8)) (ao : Option Addr) (c : Nat) (sk : Rst) : Prop where
 le : k ≤ n
 len : M.length = k
 field : wr.heap[B]? = some (.cells (cs.set i (.slice ao k c)).toArray t (0, 0))
 own : wr.ownsRow (w.heap.size + 1) e s.wid (.slice ao k c) k (M.map (·.1)).flatten
 red : ∀ m ∈ M, EncN (fun j => w.heap.size ≤ j ∧ j < wr.heap.size ∧ (Value.slice ao k c).ownBlock ≠ some j) wr s m.1 m.2
 rat : RAt wr R sk.1 sk.2
 small : sk.1.length ≤ st.1.length
 rest : rdLF (rdF s) n st = ((rdLF (rdF s) (n - k) sk).1 + k, (M.map (·.2)).flatten ++ (rdLF (rdF s) (n - k) sk).2.1, (rdLF (rdF s) (n - k) sk).2.2)
 keep : Keep (fun j => j = R ∨ j = B) w wr
theorem TLp.begin {s : Sh} {e : TypeId} {R B i : Nat} {w wr : World} {cs : List Value} {t : TypeId} {n : Nat} {st : Rst} (hi : cs[i]? = some (.slice none 0 0)) (hf : wr.heap[B]? = some (.cells cs.toArray t (0, 0))) (hr : RAt wr R st.1 st.2) (hk : Keep (fun j => j = R ∨ j = B) w wr) :
 TLp s e R B i w cs t n st wr 0 [] none 0 st := by
 have hs : cs.set i (.slice none 0 0) = cs := by
  obtain ⟨h1, h2⟩ := List.getElem?_eq_some_iff.1 hi
  rw [← h2]
  exact List.set_getElem_self h1
 exact ⟨Nat.zero_le _, rfl, by rw [hs]; exact hf, World.ownsRow_nil _ _ _ _, (fun m hm => by cases hm), hr, Nat.le_refl _, by simp, hk⟩
theorem mk_list {s : Sh} {e : TypeId} {base base0 : Nat} (hb0 : base0 ≤ base) {wr : World} {M : List (List Value × List UInt8)} {ao : Option Addr} {c k : Nat} {P : Nat → Prop} (hl : M.length = k) (hk : k ≤ 5000) (own : wr.ownsRow base e s.wid (.slice ao k c) k (M.map (·.1)).flatten)
 (red : ∀ m ∈ M, EncN P wr s m.1 m.2) (hP : ∀ j, P j → base0 ≤ j ∧ j < wr.heap.size) : EncN (fun j => base0 ≤ j ∧ j < wr.heap.size) wr (.list s) [.slice ao k c] (numL k ++ (M.map (·.2)).flatten) := by
 subst hl
 have hw : Wide s.wid (M.map (·.1)) := fun r hr => by
  obtain ⟨m, hm, rfl⟩ := List.mem_map.1 hr
  exact (EncN.enc s (red m hm)).wide
 have hr := Rws.own (L := M.map (·.1)) (by rw [List.length_map]; exact own) hw
 exact ⟨ao, c, M, rfl, hr, fun m hm => EncN.mono hP s (red m hm), by omega, rfl, fun j hj => by have := own.lt j (by rw [ownBlock_blk]; exact hj); omega⟩
theorem TLp.done {s : Sh} {e : TypeId} {R B i : Nat} {w wr : World} {cs : List Value} {t : TypeId} {n : Nat} {st : Rst} {M : List (List Value × List UInt8)} {ao : Option Addr} {c : Nat} {sk : Rst} (h : TLp s e R B i w cs t n st wr n M ao c sk) (hn : n ≤ 5000) :
 EncN (fun k => w.heap.size ≤ k ∧ k < wr.heap.size) wr (.list s) [.slice ao n c] (numL (rdLF (rdF s) n st).1 ++ (rdLF (rdF s) n st).2.1) ∧ RAt wr R (rdLF (rdF s) n st).2.2.1 (rdLF (rdF s) n st).2.2.2 := by
 have e1 := h.rest
 rw [Nat.sub_self, rdLF_zero] at e1
 rw [e1]
 simp only [Nat.zero_add, List.append_nil]
 exact ⟨mk_list (Nat.le_succ _) h.len hn h.own h.red (fun j hj => ⟨hj.1, hj.2.1⟩), h.rat⟩
theorem TLp.next {s : Sh} {e : TypeId} {R B i : Nat} {w wr : World} {cs : List Value} {t : TypeId} {n : Nat} {st : Rst} {k : Nat} {M : List (List Value × List UInt8)} {ao : Option Addr} {c : Nat} {sk : Rst} (h : TLp s e R B i w cs t n st wr k M ao c sk)
 (hRw : R < w.heap.size) (hBw : B < w.heap.size) (hRB : R < B) (hkn : k < n) {mc : List Value} {w2 w3 w4 : World} (hrd : RdP s R wr sk mc w2) {g cap : Nat}
 (h3 : Below w2.heap.size w2 w3) (o4 : w4.ownsRow (w.heap.size + 1) e s.wid (.slice (some ⟨g, 0, none⟩) (k + 1) cap) (k + 1) ((M.map (·.1)).flatten ++ mc)) (g4 : w3.grownBy w4 (Value.slice ao k c).ownBlock) (gg : (Value.slice ao k c).ownBlock = some g ∨ g = w3.heap.size) :
 RAt (w4.setCell ⟨B, i, none⟩ (.slice (some ⟨g, 0, none⟩) (k + 1) cap)) R (rdF s sk).2.1 (rdF s sk).2.2 ∧
 ((rdF s sk).2.2 = 0 → TLp s e R B i w cs t n st (w4.setCell ⟨B, i, none⟩ (.slice (some ⟨g, 0, none⟩) (k + 1) cap)) (k + 1) (M ++ [(mc, (rdF s sk).1)]) (some ⟨g, 0, none⟩) cap (rdF s sk).2) ∧
 ((rdF s sk).2.2 ≠ 0 → n ≤ 5000 → EncN (fun j => w.heap.size ≤ j ∧ j < (w4.setCell ⟨B, i, none⟩ (.slice (some ⟨g, 0, none⟩) (k + 1) cap)).heap.size) (w4.setCell ⟨B, i, none⟩ (.slice (some ⟨g, 0, none⟩) (k + 1) cap)) (.list s) [.slice (some ⟨g, 0, none⟩) (k + 1) cap] (numL (rdLF (rdF s) n st).1 ++ (rdLF (rdF s) n st).2.1) ∧
  (w4.setCell ⟨B, i, none⟩ (.slice (some ⟨g, 0, none⟩) (k + 1) cap)).heap[B]? = some (.cells (cs.set i (.slice (some ⟨g, 0, none⟩) (k + 1) cap)).toArray t (0, 0)) ∧ RAt (w4.setCell ⟨B, i, none⟩ (.slice (some ⟨g, 0, none⟩) (k + 1) cap)) R (rdLF (rdF s) n st).2.2.1 (rdLF (rdF s) n st).2.2.2 ∧ Keep (fun j => j = R ∨ j = B) w (w4.setCell ⟨B, i, none⟩ (.slice (some ⟨g, 0, none⟩) (k + 1) cap))) := by
 obtain ⟨e1, r1, k1⟩ := hrd
 have hown : ∀ j, (Value.slice ao k c).ownBlock = some j → w.heap.size + 1 ≤ j ∧ j < wr.heap.size := fun j hj => h.own.lt j hj
 have K3 : Keep (fun _ => False) w2 w3 := Keep.of_below h3
 have K4 : Keep (fun j => (Value.slice ao k c).ownBlock = some j) w3 w4 := Keep.of_grown g4 (fun j hj => hj)
 have K5 : Keep (fun j => j = B) w4 (w4.setCell ⟨B, i, none⟩ (.slice (some ⟨g, 0, none⟩) (k + 1) cap)) := Keep.set w4 ⟨B, i, none⟩ _ rfl
 have s0 := h.keep.size
 have s1 := k1.size
 have s3 := K3.size
 have s4 := K4.size
 have s5 := K5.size
 have hg : w.heap.size + 1 ≤ g := (o4.lt g rfl).1
 have hf3 : w3.heap[B]? = some (.cells (cs.set i (.slice ao k c)).toArray t (0, 0)) := (K3.block B (by omega) (fun e => e)).trans ((k1.block B (by omega) (fun e => by have e' : B = R := e; omega)).trans h.field)
 have hf4 := (K4.block B (by omega) (fun e => by have := (hown B e).1; omega)).trans hf3
 have hf5 := row_put hf4 i (.slice (some ⟨g, 0, none⟩) (k + 1) cap)
 rw [List.set_set] at hf5
 have r5 : RAt (w4.setCell ⟨B, i, none⟩ (.slice (some ⟨g, 0, none⟩) (k + 1) cap)) R (rdF s sk).2.1 (rdF s sk).2.2 :=
  ((r1.keepK K3 (fun j e => e.elim)).keepK K4 (fun j e => by have := (hown j e).1; omega)).keepK K5 (fun j e => by have e' : j = B := e; omega)
 have o5 := o4.kept (grown_set w4 ⟨B, i, none⟩ (.slice (some ⟨g, 0, none⟩) (k + 1) cap)) (.inr (by simp [Value.ownBlock]; omega))
 have kk : Keep (fun j => j = R ∨ j = B) w (w4.setCell ⟨B, i, none⟩ (.slice (some ⟨g, 0, none⟩) (k + 1) cap)) :=
  (((h.keep.trans (k1.mono (fun j _ e => .inl e))).trans (K3.mono (fun j _ e => e.elim))).trans2 K4 (fun j e => .inr (Nat.le_of_succ_le (hown j e).1))).trans (K5.mono (fun j _ e => .inr e))
 have red : ∀ m ∈ M ++ [(mc, (rdF s sk).1)], EncN (fun j => w.heap.size ≤ j ∧ j < (w4.setCell ⟨B, i, none⟩ (.slice (some ⟨g, 0, none⟩) (k + 1) cap)).heap.size ∧ (Value.slice (some ⟨g, 0, none⟩) (k + 1) cap).ownBlock ≠ some j) (w4.setCell ⟨B, i, none⟩ (.slice (some ⟨g, 0, none⟩) (k + 1) cap)) s m.1 m.2 := fun m hm => by
  rcases List.mem_append.1 hm with hm | hm
  · have q0 := h.red m hm
    have q1 := EncN.keep k1 (fun j hj e => by have e' : j = R := e; have := hj.1; omega) s q0
    have q2 := EncN.keep K3 (fun j hj e => e) s q1
    have q3 := EncN.keep K4 (fun j hj e => hj.2.2 e) s q2
    have q4 := EncN.keep K5 (fun j hj e => by have e' : j = B := e; have := hj.1; omega) s q3
    refine EncN.mono (fun j hj => ⟨hj.1, by omega, fun e => ?_⟩) s q4
    have e' : g = j := by simpa [Value.ownBlock] using e
    subst e'
    rcases gg with e | e
    · exact hj.2.2 e
    · omega
  · obtain rfl := List.mem_singleton.1 hm
    have q2 := EncN.keep K3 (fun j hj e => e) s e1
    have q3 := EncN.keep K4 (fun j hj e => by have := (hown j e).2; have := hj.1; omega) s q2
    have q4 := EncN.keep K5 (fun j hj e => by have e' : j = B := e; have := hj.1; omega) s q3
    refine EncN.mono (fun j hj => ⟨by omega, by omega, fun e => ?_⟩) s q4
    have e' : g = j := by simpa [Value.ownBlock] using e
    subst e'
    rcases gg with e | e
    · have := (hown g e).2; omega
    · omega
 have hfl : ((M ++ [(mc, (rdF s sk).1)]).map (·.1)).flatten = (M.map (·.1)).flatten ++ mc := by simp
 have hfb : ((M ++ [(mc, (rdF s sk).1)]).map (·.2)).flatten = (M.map (·.2)).flatten ++ (rdF s sk).1 := by simp
 have hnk : n - k = (n - (k + 1)) + 1 := by omega
 refine ⟨r5, fun h0 => ⟨by omega, by rw [List.length_append, h.len]; rfl, hf5, by rw [hfl]; exact o5, red, r5, Nat.le_trans (rd_len s sk) h.small, ?_, kk⟩, fun h0 hn => ⟨?_, hf5, ?_, kk⟩⟩
 · rw [h.rest, hnk, rdLF_more _ _ _ h0, hfb]
   simp only [Prod.mk.injEq, List.append_assoc, and_true]
   omega
 · have := mk_list (Nat.le_succ _) (M := M ++ [(mc, (rdF s sk).1)]) (k := k + 1) (by rw [List.length_append, h.len]; rfl) (by omega) (by rw [hfl]; exact o5) red (fun j hj => ⟨hj.1, hj.2.1⟩)
   rw [h.rest, hnk, rdLF_stop _ _ _ h0]
   rw [hfb] at this
   rw [show 1 + k = k + 1 from by omega]
   exact this
 · rw [h.rest, hnk, rdLF_stop _ _ _ h0]
   exact r5
set_option maxHeartbeats 2000000 in
theorem rtake_whole {w : World} {R B : Nat} {st : Rst} {cs : List Value} {t : TypeId} (i : Nat) {u : Value} (h : RAt w R st.1 st.2) (hl : st.1.length ≤ 140737488355328) (hB : w.heap[B]? = some (.cells cs.toArray t (0, 0))) (hi : cs[i]? = some u) (hRB : R < B) :
 Calls Tryz.prog 80 #[.pointer (some ⟨B, i, none⟩), (.func (.func 81) #[.agg #[.pointer (some ⟨R, 0, none⟩)]] #[])] w (fun en w' => en = .returned (.tuple #[]) ∧ ∃ v, TkP .int R B w st cs t i v w') := by
 have C := hid (rwhole_any h)
 have HB := hid hB
 have HI := hid hi
 clear hB hi h
 go_enter Tryz.func80, Tryz.ntmps80
 go_wp2_with (first | (go_at_call 81; refine C.out.mono ?_; rintro en w2 ⟨v, rfl, hv⟩; obtain ⟨y0, rfl⟩ := form_int (EncN.enc _ hv.1); have HV := hid hv; obtain ⟨z0, z1⟩ := row_at ((hv.2.2.block B (lt_of_block HB.out) (fun e => by have e9 : B = R := e; omega)).trans HB.out) HI.out; clear hv))
 go_end0
 exact ⟨rfl, _, HV.out.store HB.out hRB i⟩
set_option maxHeartbeats 2000000 in
theorem rtake_name {w : World} {R B : Nat} {st : Rst} {cs : List Value} {t : TypeId} (i : Nat) {u : Value} (h : RAt w R st.1 st.2) (hl : st.1.length ≤ 140737488355328) (hB : w.heap[B]? = some (.cells cs.toArray t (0, 0))) (hi : cs[i]? = some u) (hRB : R < B) :
 Calls Tryz.prog 96 #[.pointer (some ⟨B, i, none⟩), (.func (.func 97) #[.agg #[.pointer (some ⟨R, 0, none⟩)]] #[])] w (fun en w' => en = .returned (.tuple #[]) ∧ ∃ v, TkP .name R B w st cs t i v w') := by
 have C := hid (rname_any h hl)
 have HB := hid hB
 have HI := hid hi
 clear hB hi h
 go_enter Tryz.func96, Tryz.ntmps96
 go_wp2_with (first | (go_at_call 97; refine C.out.mono ?_; rintro en w2 ⟨v, rfl, hv⟩; obtain ⟨y0, rfl⟩ := form_name (EncN.enc _ hv.1); have HV := hid hv; obtain ⟨z0, z1⟩ := row_at ((hv.2.2.block B (lt_of_block HB.out) (fun e => by have e9 : B = R := e; omega)).trans HB.out) HI.out; clear hv))
 go_end0
 exact ⟨rfl, _, HV.out.store HB.out hRB i⟩
set_option maxHeartbeats 2000000 in
theorem rtake_flag {w : World} {R B : Nat} {st : Rst} {cs : List Value} {t : TypeId} (i : Nat) {u : Value} (h : RAt w R st.1 st.2) (hl : st.1.length ≤ 140737488355328) (hB : w.heap[B]? = some (.cells cs.toArray t (0, 0))) (hi : cs[i]? = some u) (hRB : R < B) :
 Calls Tryz.prog 82 #[.pointer (some ⟨B, i, none⟩), (.func (.func 83) #[.agg #[.pointer (some ⟨R, 0, none⟩)]] #[])] w (fun en w' => en = .returned (.tuple #[]) ∧ ∃ v, TkP .bool R B w st cs t i v w') := by
 have C := hid (rflag_any h)
 have HB := hid hB
 have HI := hid hi
 clear hB hi h
 go_enter Tryz.func82, Tryz.ntmps82
 go_wp2_with (first | (go_at_call 83; refine C.out.mono ?_; rintro en w2 ⟨v, rfl, hv⟩; obtain ⟨y0, rfl⟩ := form_bool (EncN.enc _ hv.1); have HV := hid hv; obtain ⟨z0, z1⟩ := row_at ((hv.2.2.block B (lt_of_block HB.out) (fun e => by have e9 : B = R := e; omega)).trans HB.out) HI.out; clear hv))
 go_end0
 exact ⟨rfl, _, HV.out.store HB.out hRB i⟩
set_option maxHeartbeats 8000000 in
theorem rlist_int {w : World} {R B : Nat} {st : Rst} {cs : List Value} {t : TypeId} (i : Nat) (h : RAt w R st.1 st.2) (hl : st.1.length ≤ 140737488355328) (hB : w.heap[B]? = some (.cells cs.toArray t (0, 0))) (hi : cs[i]? = some (.slice none 0 0)) (hRB : R < B) :
 Calls Tryz.prog 143 #[.agg #[.pointer (some ⟨R, 0, none⟩)], .pointer (some ⟨B, i, none⟩), (.func (.func 81) #[.agg #[.pointer (some ⟨R, 0, none⟩)]] #[])] w (fun en w' => en = .returned (.tuple #[]) ∧ ∃ v, TkP (.list .int) R B w st cs t i v w') := by
 obtain ⟨i0, hi0, hz0, hz1, hz2⟩ : ∃ i0, Tryz.prog.info? 3 = some i0 ∧ i0.zero = some (.int .i64 0) ∧ i0.size = 1 ∧ i0.bytes = 8 := by
  have h9 : (Tryz.prog.info? 3).map (fun i => (i.zero, i.size, i.bytes)) = some (some (.int .i64 0), 1, 8) := by kernel_rfl
  cases hq : Tryz.prog.info? 3 with
  | none => rw [hq] at h9; cases h9
  | some q => rw [hq] at h9; simp at h9; exact ⟨q, rfl, h9⟩
 have HI0 := hid (And.intro hi0 (And.intro hz0 (And.intro hz1 hz2)))
 clear hi0 hz0 hz1 hz2
 have hb : Below w.heap.size w (w.alloc (.cells #[.pointer (some ⟨R, 0, none⟩)] 79)) := (Below.refl _ _).alloc (Nat.le_refl _) _
 have hz := heap_alloc_new w (.cells #[.pointer (some ⟨R, 0, none⟩)] 79)
 have hRw := h.lt
 have hBw := lt_of_block hB
 have HRW := hid hRw
 have HBW := hid hBw
 have H := hid (h.old hb)
 have HB := hid hb
 have HF := hid ((hb.block _ hBw).trans hB)
 have HI := hid hi
 have HZ := hid hz
 have HLE := hid hl
 clear h hB hi hb hz hl
 go_enter Tryz.func143, Tryz.ntmps143
 go_upto_region 1 with fail
 generalize w.alloc (.cells #[.pointer (some ⟨R, 0, none⟩)] 79) = w1 at *
 obtain ⟨z0, z1⟩ := one_cell HZ.out
 obtain ⟨n, hn⟩ : ∃ n, n = (lookS 5000 st.1 st.2).1 := ⟨_, rfl⟩
 obtain ⟨s1, hs1⟩ : ∃ s1 : Rst, s1 = (st.1.drop (lookS 5000 st.1 st.2).2.1, (lookS 5000 st.1 st.2).2.2) := ⟨_, rfl⟩
 have HN := hid (And.intro hn hs1)
 have hn5 : n ≤ 5000 := by rw [hn]; exact lookS_most _ _ _
 have C0 : Hid (Calls Tryz.prog 140 #[.pointer (some ⟨R, 0, none⟩), .int .i64 5000] w1 (fun en w' => en = .returned (.int .i64 (n : Int)) ∧ RAt w' R s1.1 s1.2 ∧ w1.grownBy w' (some R))) := hid ((smallR_any w1 R st.1 st.2 5000 (by decide) H.out).mono (fun en w9 h9 => by rw [hn, hs1]; exact h9))
 have HS1 : Hid (s1.1.length ≤ st.1.length) := hid (by rw [hs1]; simp)
 clear hn hs1
 go_wp2_with (first | (go_at_call 140; refine C0.out.mono ?_; rintro en w2 ⟨rfl, h2, g2⟩; have H2 := hid h2; have K2 := hid (show Keep (fun j => j = R ∨ j = B) w w2 from (Keep.of_below HB.out).trans ((Keep.of_grown (X := fun j => j = R) g2 (fun j e => by cases e; rfl)).mono (fun j _ e => .inl e))); have HF2 := hid ((g2.block B (lt_of_block HF.out) (fun e => by cases e; omega)).trans HF.out); have HZ2 := hid ((g2.block w.heap.size (lt_of_block HZ.out) (fun e => by cases e; omega)).trans HZ.out); clear h2 g2))
 clear z0 z1 C0
 go_loopw [9] (fun ix wr => ∃ (k : Nat) (M : List (List Value × List UInt8)) (ao : Option Addr) (c : Nat) (sk : Rst), ix = .int .i64 (k : Int) ∧ wr.heap[w.heap.size]? = some (.cells #[.pointer (some ⟨R, 0, none⟩)] 79 (0, 0)) ∧ TLp .int 3 R B i w cs t n s1 wr k M ao c sk) (fun ix _ => n - (intOf ix).toNat)
 case atStart => exact ⟨0, [], none, 0, s1, rfl, HZ2.out, TLp.begin HI.out HF2.out H2.out K2.out⟩
 case round =>
  obtain ⟨k, M, ao, c, sk, rfl, hzr, ht⟩ := hrel
  have hk := ht.le
  have HT := hid ht
  have HZR := hid hzr
  clear ht hzr
  by_cases hlt : k < n
  · have hki : (k : Int) < (n : Int) := by omega
    go_upto_region 3 with fail
    have hWd : Below wr.heap.size wr wr.drew := ⟨rfl, rfl, rfl, Nat.le_refl _, fun _ _ => rfl⟩
    have HLk : Hid (sk.1.length ≤ 140737488355328) := hid (by have := HT.out.small; have := HS1.out; have := HLE.out; omega)
    have HTd : Hid (RAt wr.drew R sk.1 sk.2) := hid (HT.out.rat.old hWd)
    have HFd : Hid (wr.drew.heap[B]? = some (.cells (cs.set i (.slice ao k c)).toArray t (0, 0))) := HT.out.field
    have HLI := hid (List.getElem?_set_self (a := .slice ao k c) (List.getElem?_eq_some_iff.1 HI.out).1)
    have CN := hid (rwhole_any HTd.out)
    have HUD : Hid (∀ mc w9, RdP .int R wr.drew sk mc w9 → RdP .int R wr sk mc w9) := hid fun _ _ h => h.undrew
    have HZd : Hid (wr.drew.heap[w.heap.size]? = some (.cells #[.pointer (some ⟨R, 0, none⟩)] 79 (0, 0))) := HZR.out
    clear hWd
    refine wp_region_noPanic ?_
    refine wp_region_L (S := fun W => Hid (W.cell? ⟨B, i, none⟩ = some (.slice ao k c))) 9 (by kernel_rfl) ?_
    have HD0 := hid (row_at HFd.out HLI.out).1
    generalize wr.drew = Wd at *
    refine tkV 0 (.pointer (some ⟨B, i, none⟩)) rfl (by kernel_rfl) (fun _ _ _ => False.elim) (Or.inl ⟨by rfl, fun W9 _ => by simp only [jA, jB, jC]; go_simp⟩) (fun _ => HD0) ?_
    simp only [Act.put, jA, jB, jC, jD, jE, jF]
    refine tkV 1 (.pointer (some ⟨B, i, none⟩)) rfl (by kernel_rfl) (fun _ _ _ => False.elim) (Or.inl ⟨by rfl, fun W9 _ => by simp only [jA, jB, jC]; go_simp⟩) (fun _ => HD0) ?_
    simp only [Act.put, jA, jB, jC, jD, jE, jF]
    refine tkV 2 (.pointer (some ⟨B, i, none⟩)) rfl (by kernel_rfl) (fun _ _ _ => False.elim) (Or.inl ⟨by rfl, fun W9 _ => by simp only [jA, jB, jC]; go_simp⟩) (fun _ => HD0) ?_
    simp only [Act.put, jA, jB, jC, jD, jE, jF]
    refine tkV 4 (.func (.func 81) #[.agg #[.pointer (some ⟨R, 0, none⟩)]] #[]) rfl (by kernel_rfl) (fun _ _ _ => False.elim) (Or.inl ⟨by rfl, fun W9 _ => by simp only [jA, jB, jC]; go_simp⟩) (fun _ => HD0) ?_
    simp only [Act.put, jA, jB, jC, jD, jE, jF]
    refine tkL 3 (.slice ao k c) [3, 7, 9] rfl (by kernel_rfl) (fun _ _ _ => False.elim) HD0 (Or.inl ⟨by rfl, fun W9 hW => by have d9 := hW.out; clear hW; simp only [jA, jB, jC]; go_simp⟩) ?_
    simp only [Act.put, jA, jB, jC, jD, jE, jF]
    refine rdL 5 (by kernel_rfl) rfl fun K hK => ?_
    go_simp
    go_wp2_with (first | (go_at_call 81; refine CN.out.mono ?_; rintro en wT ⟨v, rfl, hv⟩; obtain ⟨y0, rfl⟩ := form_int (EncN.enc _ hv.1); have HV := hid (HUD.out _ _ hv); have HZT := hid ((hv.2.2.block w.heap.size (lt_of_block HZd.out) (fun e => by have e9 : w.heap.size = R := e; omega)).trans HZd.out); have HFT := hid ((hv.2.2.block B (lt_of_block HFd.out) (fun e => by have e9 : B = R := e; omega)).trans HFd.out); clear hv))
    refine hK.out _ _ (hid (row_at HFT.out HLI.out).1) fun _ => ?_
    clear hK K
    have H3 : Hid (Below wT.heap.size wT (wT.alloc (.cells #[.int .i64 y0] 3))) := hid ((Below.refl _ _).alloc (Nat.le_refl _) _)
    have HR3 := hid (heap_alloc_new wT (.cells #[.int .i64 y0] 3))
    have HF3 := hid ((H3.out.block B (lt_of_block HFT.out)).trans HFT.out)
    have HOW := hid (own_old (own_keep (X := fun j => j = R) HT.out.own (show Keep _ wr wT from HV.out.2.2) (fun j e e9 => by have e8 : j = R := e9; have := (HT.out.own.lt j e).1; omega)) H3.out)
    have HSZ : Hid (w.heap.size + 1 ≤ (wT.alloc (.cells #[.int .i64 y0] 3)).heap.size) := hid (by have := lt_of_block HZT.out; have := H3.out.size; show _ ≤ _; omega)
    refine rdL 6 (by kernel_rfl) rfl fun K hK => ?_
    go_simp
    refine hK.out _ _ (hid (row_at HF3.out HLI.out).1) fun _ => ?_
    clear hK K
    refine rdL 7 (by kernel_rfl) rfl fun K hK => ?_
    refine step_app1 (by rfl) (.tmp 14) (.tmp 17) 37 (by rfl) (w.heap.size + 1) 3 Tryz.underlying37 HI0.out.1 HI0.out.2.1 HI0.out.2.2.1 HI0.out.2.2.2 (by simp [Value.cells]) (by decide) _ k _ (by rfl) HOW.out wT.heap.size [.int .i64 y0] (by rfl) HR3.out rfl (fun u hu => by simp only [List.mem_cons, List.not_mem_nil, or_false] at hu; subst hu; rfl) (by omega) (by decide) HSZ.out (fun g cap w' o5 g5 gg5 => ?_)
    have HF4 := hid (heap_kept g5 HF3.out (fun e => by have := (HT.out.own.lt B e.symm).1; omega))
    have HZ5 : Hid ((w'.setCell ⟨B, i, none⟩ (.slice (some ⟨g, 0, none⟩) (k + 1) cap)).heap[w.heap.size]? = some (.cells #[.pointer (some ⟨R, 0, none⟩)] 79 (0, 0))) := hid (heap_kept (grown_set w' ⟨B, i, none⟩ _) (heap_kept g5 ((H3.out.block _ (lt_of_block HZT.out)).trans HZT.out) (fun e => by have := (HT.out.own.lt _ e.symm).1; omega)) (fun e => by have e9 : w.heap.size = B := (by simpa using e); have := HBW.out; omega))
    have HNX := hid (HT.out.next HRW.out HBW.out hRB hlt (show RdP .int R wr sk [.int .i64 y0] wT from HV.out) H3.out o5 g5 gg5)
    clear o5 g5 gg5
    refine hK.out _ _ (hid (row_at HF4.out HLI.out).1) fun _ => ?_
    clear hK K
    simp only [Act.put, jA, jB, jC, jD, jE, jF]
    refine tkV 8 (.pointer (some ⟨B, i, none⟩)) rfl (by kernel_rfl) (fun _ _ _ => False.elim) (Or.inl ⟨by rfl, fun W9 _ => by simp only [jA, jB, jC]; go_simp⟩) (fun _ => hid (row_at HF4.out HLI.out).1) ?_
    simp only [Act.put, jA, jB, jC, jD, jE, jF]
    obtain ⟨q0, q1⟩ := row_at HF4.out HLI.out
    refine rdS (by kernel_rfl) rfl fun K hK => ?_
    go_simp
    refine hK.out _ _ ?_
    clear hK K q0 q1
    refine doneL (by kernel_rfl) (NoPanic.normal ?_) _
    generalize w'.setCell ⟨B, i, none⟩ (.slice (some ⟨g, 0, none⟩) (k + 1) cap) = w5 at *
    obtain ⟨p0, p1⟩ := one_cell HZ5.out
    have CE := hid (err_any w5 R _ _ HNX.out.1)
    obtain ⟨ev, hev⟩ : ∃ ev, ev = (rdF .int sk).2.2 := ⟨_, rfl⟩
    rw [← hev] at CE
    by_cases h0 : ev = 0
    · have HNE := hid (HNX.out.2.1 (by rw [← hev]; exact h0))
      subst h0
      clear hev
      go_wp2_with (first | (go_at_call 132; refine CE.out.mono ?_; rintro en w6 ⟨rfl, rfl⟩))
      go_roundw
      case rel => exact ⟨k + 1, _, _, _, _, by go_num, HZ5.out, HNE.out⟩
      case measure => simp [intOf]; omega
    · have HNE := hid (HNX.out.2.2 (by rw [← hev]; exact h0) hn5)
      have hbe : (ev != 0) = true := by simp [h0]
      clear hev
      go_wp2_with (first | (go_at_call 132; refine CE.out.mono ?_; rintro en w6 ⟨rfl, rfl⟩))
      (try simp only [Exit.inBlock, Exit.then]); refine bodyPost_ret (results_none rfl _ _ _) rfl ?_
      obtain ⟨m1, m2, m3, m4⟩ := HNE.out
      refine ⟨rfl, .slice (some ⟨g, 0, none⟩) (k + 1) cap, ?_, m2, ?_, m4⟩
      · simp only [rdF]; rw [← HN.out.1, ← HN.out.2]; exact m1
      · simp only [rdF]; rw [← HN.out.1, ← HN.out.2]; exact m3
  · obtain rfl : n = k := by omega
    have hki : ¬ (n : Int) < (n : Int) := by omega
    go_wp2_with fail
    go_end0
    obtain ⟨p1, p2⟩ := HT.out.done hn5
    refine ⟨rfl, .slice ao n c, ?_, HT.out.field, ?_, HT.out.keep⟩
    · simp only [rdF]; rw [← HN.out.1, ← HN.out.2]; exact p1
    · simp only [rdF]; rw [← HN.out.1, ← HN.out.2]; exact p2
end Go.Proofs.YtmdgifmigikffaaGreat
namespace Go.Proofs.YtmdgifmigikffaaGreat
open Go.RowKit
section
variable {bad : Int}
theorem four_cellsQ {w : World} {b : Nat} {u v x y : Value} {t : TypeId} (h : w.heap[b]? = some (.cells #[u, v, x, y] t (0, 0))) :
 w.cell? ⟨b, 0, none⟩ = some u ∧ w.cell? ⟨b, 1, none⟩ = some v ∧ w.cell? ⟨b, 2, none⟩ = some x ∧ w.frozen? ⟨b, 1, none⟩ = false ∧ w.frozen? ⟨b, 2, none⟩ = false := by
 simp [World.cell?, World.frozen?, h]
theorem four_setQ {w : World} {b : Nat} {cs : Array Value} {t : TypeId} (i : Nat) (z : Value) (h : w.heap[b]? = some (.cells cs t (0, 0))) : (w.setCell ⟨b, i, none⟩ z).heap[b]? = some (.cells (cs.setIfInBounds i z) t (0, 0)) := by
 have hlt := lt_of_block h
 have h' : w.heap[b] = .cells cs t (0, 0) := by simpa [Array.getElem?_eq_getElem hlt] using h
 show (w.heap.modify b _)[b]? = _
 rw [Array.getElem?_eq_getElem (by simpa using hlt), Array.getElem_modify_self, h']
 rfl
theorem four_setQ1 {w : World} {b : Nat} {u v x q y : Value} {t : TypeId} (h : w.heap[b]? = some (.cells #[u, v, x, q] t (0, 0))) : (w.setCell ⟨b, 1, none⟩ y).heap[b]? = some (.cells #[u, y, x, q] t (0, 0)) := four_setQ 1 y h
theorem four_setQ2 {w : World} {b : Nat} {u v x q y : Value} {t : TypeId} (h : w.heap[b]? = some (.cells #[u, v, x, q] t (0, 0))) : (w.setCell ⟨b, 2, none⟩ y).heap[b]? = some (.cells #[u, v, y, q] t (0, 0)) := four_setQ 2 y h
def QBt (bad : Int) (w : World) (Q : Nat) (ao : Option Addr) (n c at0 : Nat) (e : Int) : Prop :=
 w.heap[Q]? = some (.cells #[.slice ao n c, .int .i64 (at0 : Int), .int .i64 e, .int .i64 bad] 144 (0, 0))
theorem QBt.set {w : World} {Q : Nat} {ao : Option Addr} {n c at0 : Nat} {e : Int} (h : QBt bad w Q ao n c at0 e) (at1 : Nat) (e1 : Int) :
 QBt bad ((w.setCell ⟨Q, 2, none⟩ (.int .i64 e1)).setCell ⟨Q, 1, none⟩ (.int .i64 (at1 : Int))) Q ao n c at1 e1 ∧ w.grownBy ((w.setCell ⟨Q, 2, none⟩ (.int .i64 e1)).setCell ⟨Q, 1, none⟩ (.int .i64 (at1 : Int))) (some Q) :=
 ⟨four_setQ1 (four_setQ2 h), grown_trans (grown_set w _ _) (grown_set _ _ _)⟩
theorem grown_draw9 (w : World) (n : Nat) (row : Option Nat) : w.grownBy (w.drewN n) row := ⟨rfl, rfl, rfl, Nat.le_refl _, fun _ _ _ => rfl⟩
def QJs (bad : Int) (w : World) (Q : Nat) (ao : Option Addr) (n c at0 : Nat) (t : Nat × Nat × Int) (v : Value) (en : Ending) (w' : World) : Prop :=
 en = .returned v ∧ QBt bad w' Q ao n c (at0 + t.2.1) t.2.2 ∧ w.grownBy w' (some Q)
set_option maxHeartbeats 1000000 in
set_option maxRecDepth 100000 in
theorem inum_any (w : World) (Q : Nat) (ao : Option Addr) (c at0 : Nat) (l : List UInt8) (e : Int) (h : QBt bad w Q ao l.length c at0 e) (hr : Rd w (.slice ao l.length c) l) (ha : at0 ≤ l.length) (hl : l.length ≤ 140737488355328) :
 Calls Tryz.prog 77 #[.pointer (some ⟨Q, 0, none⟩)] w (QJs bad w Q ao l.length c at0 (lookS maxU (l.drop at0) e) (.int .u64 ((lookS maxU (l.drop at0) e).1 : Nat))) := by
 have H := hid h
 obtain ⟨c0, c1, c2, f1, f2⟩ := four_cellsQ h
 by_cases he : e = 0
 · subst he
   have HL := hid (lookS_num' (l := l.drop at0))
   have hb := (rdN_bounds (l.drop at0) 0 0 (by decide) (by omega)).2
   have hdl : (l.drop at0).length = l.length - at0 := List.length_drop
   obtain ⟨ao', c', hs, h5, h6⟩ := hr.cut 22 5 Tryz.underlying22 (by kernel_rfl) at0 ha
   have C := fun a => (take_any _ _ (w.drewN a) (show Rd (w.drewN a) _ (l.drop at0) from h5)).mono (R' := fun e w'' => e = Ending.returned (.tuple #[.int .u64 ((rdN 0 0 (l.drop at0)).1 : Nat), .int .i64 ((rdN 0 0 (l.drop at0)).2.1 : Nat), .int .i64 (rdN 0 0 (l.drop at0)).2.2]) ∧ ∃ m, w'' = w.drewN m) fun _ _ h => ⟨h.1, a, h.2.symm⟩
   have hn : at0 + (rdN 0 0 (l.drop at0)).2.1 ≤ l.length := by omega
   generalize rdN 0 0 (l.drop at0) = t at *
   obtain ⟨v, n, er⟩ := t
   simp only at *
   clear h h5 h6 hb hdl hr
   go_enter Tryz.func77, Tryz.ntmps77
   go_wp2_with fail
   go_quiet ((go_at_call 137; exact C _))
   have HS := hid (QBt.set (w := w.drewN nq) H.out (at0 + n) er)
   clear C hs
   go_wp2_with fail
   go_ret
   have h1 := HS.out
   rw [Int.natCast_add] at h1
   refine ⟨by rw [HL.out]; rfl, ?_, grown_trans (grown_draw9 w nq (some Q)) h1.2⟩
   rw [HL.out]; exact h1.1
 · have HL : Hid (lookS maxU (l.drop at0) e = (0, 0, e)) := by unfold lookS; rw [if_pos he]; exact rfl
   clear h hr
   go_enter Tryz.func77, Tryz.ntmps77
   go_wp2_with fail
   go_ret
   rw [HL.out]
   exact ⟨rfl, H.out, World.grownBy.refl _ _⟩
theorem half_facts9 {v : Nat} (h : v < 2 ^ 64) : wrap64 (IntKind.u64.wrap ((v : Int) / 2)) = (v : Int) / 2 ∧ wrap64 (wrap64 (-wrap64 (IntKind.u64.wrap ((v : Int) / 2))) - 1) = -1 - (v : Int) / 2 := by
 have h1 : 0 ≤ (v : Int) / 2 ∧ (v : Int) / 2 ≤ 9223372036854775807 := by omega
 generalize (v : Int) / 2 = q at *
 have e1 : IntKind.u64.wrap q = q := by rw [wrap_u64]; omega
 have e2 : wrap64 q = q := by simp only [wrap64]; omega
 have e3 : wrap64 (-q) = -q := by simp only [wrap64]; omega
 have e4 : wrap64 (-q - 1) = -q - 1 := by simp only [wrap64]; omega
 rw [e1, e2, e3, e4]
 exact ⟨rfl, by omega⟩
set_option maxHeartbeats 1000000 in
set_option maxRecDepth 100000 in
theorem iint_any (w : World) (Q : Nat) (ao : Option Addr) (c at0 : Nat) (l : List UInt8) (e : Int) (h : QBt bad w Q ao l.length c at0 e) (hr : Rd w (.slice ao l.length c) l) (ha : at0 ≤ l.length) (hl : l.length ≤ 140737488355328) :
 Calls Tryz.prog 144 #[.pointer (some ⟨Q, 0, none⟩)] w (QJs bad w Q ao l.length c at0 (lookS maxU (l.drop at0) e) (.int .i64 (unzig (lookS maxU (l.drop at0) e).1))) := by
 have hlt := lookS_lt maxU (l.drop at0) e
 obtain ⟨f1, f2, f3⟩ := unzig_facts hlt
 go_enter Tryz.func144, Tryz.ntmps144
 go_wp2_with fail
 refine (inum_any w Q ao c at0 l e h hr ha hl).mono ?_
 rintro en w1 ⟨rfl, h1, g1⟩
 have HE := hid (And.intro h1 g1)
 clear h1 g1 h hr
 have hu : Hid (unzig (lookS maxU (l.drop at0) e).1 = if (lookS maxU (l.drop at0) e).1 % 2 = 1 then -1 - ((lookS maxU (l.drop at0) e).1 : Int) / 2 else ((lookS maxU (l.drop at0) e).1 : Int) / 2) := by unfold unzig; split <;> (show _ = _) <;> omega
 generalize lookS maxU (l.drop at0) e = t at *
 obtain ⟨v, n, er⟩ := t
 simp only at *
 by_cases t1 : v % 2 = 1
 · have t2 : (v : Int) % 2 = 1 := by omega
   have hv : Hid (wrap64 (wrap64 (-wrap64 (IntKind.u64.wrap ((v : Int) / 2))) - 1) = unzig v) := by rw [hu.out, if_pos t1]; exact (half_facts9 hlt).2
   clear hu t1 f2 hlt
   go_wp2_with fail
   go_ret
   exact ⟨by rw [← hv.out]; rfl, HE.out⟩
 · have t2 : ¬ (v : Int) % 2 = 1 := by omega
   have hv : Hid (wrap64 (IntKind.u64.wrap ((v : Int) / 2)) = unzig v) := by rw [hu.out, if_neg t1]; exact (half_facts9 hlt).1
   clear hu t1 f2 hlt
   go_wp2_with fail
   go_ret
   exact ⟨by rw [← hv.out]; rfl, HE.out⟩
def QSmall9 (bad : Int) (w : World) (Q : Nat) (ao : Option Addr) (n c at0 : Nat) (t : Nat × Nat × Int) (en : Ending) (w' : World) : Prop :=
 en = .returned (.tuple #[.int .i64 (t.1 : Nat), .int .i64 (at0 : Int)]) ∧ QBt bad w' Q ao n c (at0 + t.2.1) t.2.2 ∧ w.grownBy w' (some Q)
set_option maxHeartbeats 1000000 in
set_option maxRecDepth 100000 in
theorem ismall0_any (w : World) (Q : Nat) (ao : Option Addr) (c at0 : Nat) (l : List UInt8) (e z : Int) (hz : (Lit.int .i64 z).wf = true) (h : QBt bad w Q ao l.length c at0 e) (hr : Rd w (.slice ao l.length c) l) (ha : at0 ≤ l.length) (hl : l.length ≤ 140737488355328) :
 Calls Tryz.prog 138 #[.pointer (some ⟨Q, 0, none⟩), .int .i64 z] w (QSmall9 bad w Q ao l.length c at0 (lookS (nn z) (l.drop at0) e)) := by
 have hm := lookS_most (nn z) (l.drop at0) e
 have hb := bounds_i64 hz
 have HW : Hid (IntKind.i64.wrap ((lookS (nn z) (l.drop at0) e).1 : Int) = ((lookS (nn z) (l.drop at0) e).1 : Int)) := by
  show _ = _
  rw [IntKind.wrap_i64]; unfold nn at *; omega
 obtain ⟨c0, c1, c2, f1, f2⟩ := four_cellsQ h
 have HS : Hid (lookS (nn z) (l.drop at0) e = if e ≠ 0 then (0, 0, e) else if (lookS maxU (l.drop at0) e).2.2 = 0 ∧ nn z < (lookS maxU (l.drop at0) e).1 then (0, 0, 9) else lookS maxU (l.drop at0) e) := by
  show _ = _
  by_cases he : e = 0
  · subst he; rw [lookS_num', if_neg (by simp)]; unfold lookS; rw [if_neg (by simp)]
  · rw [if_pos he]; unfold lookS; rw [if_pos he]
 have HE : Hid (e ≠ 0 → lookS maxU (l.drop at0) e = (0, 0, e)) := fun he => by unfold lookS; rw [if_pos he]
 clear hm
 go_enter Tryz.func138, Tryz.ntmps138
 go_wp2_with fail
 refine (inum_any w Q ao c at0 l e h hr ha hl).mono ?_
 rintro en w1 ⟨rfl, h1, g1⟩
 generalize lookS maxU (l.drop at0) e = t at *
 obtain ⟨v, n, er⟩ := t
 simp only at *
 have Hg := hid g1
 have H1 := hid h1
 clear c0 c1 c2 f1 f2 h hr g1
 obtain ⟨c0, c1, c2, f1, f2⟩ := four_cellsQ h1
 clear h1
 have hwz : 0 ≤ z → IntKind.u64.wrap z = z := fun h0 => by rw [wrap_u64]; omega
 by_cases her : er = 0
 · have he : e = 0 := by
    apply Decidable.byContradiction
    intro he
    have := HE.out he
    simp only [Prod.mk.injEq] at this
    omega
   subst he
   subst her
   by_cases hgt : nn z < v
   · have HF : Hid (lookS (nn z) (l.drop at0) 0 = (0, 0, 9)) := by rw [HS.out, if_neg (by simp), if_pos ⟨rfl, hgt⟩]; exact rfl
     have HR := hid (H1.out.set at0 9)
     clear HS HE H1
     by_cases hz0 : z < 0
     · have hv0 : (0 : Int) < (v : Int) := by unfold nn at hgt; omega
       clear hgt hwz
       go_wp2_with fail
       go_ret2
       rw [HF.out]
       exact ⟨rfl, HR.out.1, grown_trans Hg.out HR.out.2⟩
     · have hw := hwz (by omega)
       have hv0 : z < (v : Int) := by unfold nn at hgt; omega
       clear hgt hwz
       go_wp2_with fail
       go_ret2
       rw [HF.out]
       exact ⟨rfl, HR.out.1, grown_trans Hg.out HR.out.2⟩
   · have HF : Hid (lookS (nn z) (l.drop at0) 0 = (v, n, 0)) := by rw [HS.out, if_neg (by simp), if_neg (by simp [hgt])]; exact rfl
     have hiw := HW.out
     rw [HF.out] at hiw
     simp only at hiw
     clear HS HE HW
     by_cases hz0 : z < 0
     · have hv0 : ¬ (0 : Int) < (v : Int) := by unfold nn at hgt; omega
       clear hgt hwz
       go_wp2_with fail
       go_ret2
       rw [HF.out]
       exact ⟨rfl, H1.out, Hg.out⟩
     · have hw := hwz (by omega)
       have hv0 : ¬ z < (v : Int) := by unfold nn at hgt; omega
       clear hgt hwz
       go_wp2_with fail
       go_ret2
       rw [HF.out]
       exact ⟨rfl, H1.out, Hg.out⟩
 · have HF : Hid (lookS (nn z) (l.drop at0) e = (v, n, er)) := by
    show _ = _
    rw [HS.out]
    split
    · rename_i he; exact (HE.out he).symm
    · rw [if_neg (by simp [her])]
   have hiw := HW.out
   rw [HF.out] at hiw
   simp only at hiw
   clear HS HE HW hwz
   go_wp2_with fail
   go_ret2
   rw [HF.out]
   exact ⟨rfl, H1.out, Hg.out⟩
def qendS9 (n at0 : Nat) (e : Int) : Int := if e ≠ 0 then e else if at0 < n then 9 else 0
theorem qendS_eq9 (l : List UInt8) (at0 : Nat) (e : Int) : qendS9 l.length at0 e = endS (l.drop at0) e := by
 unfold qendS9 endS
 by_cases he : e = 0
 · subst he
   have hd : (l.drop at0).length = l.length - at0 := List.length_drop
   simp only [ne_eq, not_true_eq_false, if_false]
   by_cases h : at0 < l.length
   · rw [if_pos h, if_pos (by omega)]
   · rw [if_neg h, if_neg (by omega)]
 · rw [if_pos he, if_pos he]
set_option maxHeartbeats 1000000 in
set_option maxRecDepth 100000 in
theorem iend_any (w : World) (Q : Nat) (ao : Option Addr) (n c at0 : Nat) (e : Int) (h : QBt bad w Q ao n c at0 e) :
 Calls Tryz.prog 79 #[.pointer (some ⟨Q, 0, none⟩)] w (Draws w (.int .i64 (qendS9 n at0 e))) := by
 obtain ⟨c0, c1, c2, f1, f2⟩ := four_cellsQ h
 clear h
 by_cases he : e = 0
 · subst he
   by_cases hlt : at0 < n
   · have HF : Hid (qendS9 n at0 0 = 9) := by unfold qendS9; rw [if_neg (by simp), if_pos hlt]; exact rfl
     have hd : decide ((at0 : Int) < (n : Int)) = true := by simp; omega
     go_enter Tryz.func79, Tryz.ntmps79
     go_wp2_with fail
     go_quiet (fail)
     go_wp2_with fail
     go_ret
     rw [HF.out]
     exact ⟨rfl, _, rfl⟩
   · have HF : Hid (qendS9 n at0 0 = 0) := by unfold qendS9; rw [if_neg (by simp), if_neg hlt]; exact rfl
     have hd : decide ((at0 : Int) < (n : Int)) = false := by simp; omega
     go_enter Tryz.func79, Tryz.ntmps79
     go_wp2_with fail
     go_quiet (fail)
     go_wp2_with fail
     go_ret
     rw [HF.out]
     exact ⟨rfl, _, rfl⟩
 · have HF : Hid (qendS9 n at0 e = e) := by unfold qendS9; rw [if_pos he]; exact rfl
   have hd : (e == 0) = false := by simp [he]
   go_enter Tryz.func79, Tryz.ntmps79
   go_wp2_with fail
   go_quiet (fail)
   go_wp2_with fail
   go_ret
   rw [HF.out]
   exact ⟨rfl, _, rfl⟩
def QText9 (bad : Int) (w : World) (Q : Nat) (ao : Option Addr) (n c at0 : Nat) (t : List UInt8 × Nat × Int) (en : Ending) (w' : World) : Prop :=
 ∃ x, en = .returned x ∧ w'.ownsRow w.heap.size 5 1 x t.1.length (t.1.map bv) ∧ QBt bad w' Q ao n c (at0 + t.2.1) t.2.2 ∧ w.grownBy w' (some Q)
theorem lookS_cases9 (m : Nat) (l : List UInt8) (e : Int) : ((lookS m l e).2.2 = 0 ∧ 0 < (lookS m l e).2.1) ∨ ((lookS m l e).2.2 ≠ 0 ∧ (lookS m l e).2.1 = 0) := by
 have hb := (rdN_bounds l 0 0 (by decide) (by omega)).2
 unfold lookS
 split
 · right; exact ⟨by assumption, rfl⟩
 · split
   · right; exact ⟨by simp, rfl⟩
   · rcases hb with hb | hb
     · left; omega
     · right; omega
set_option maxHeartbeats 1000000 in
set_option maxRecDepth 100000 in
theorem itext_any (w : World) (Q : Nat) (ao : Option Addr) (c at0 : Nat) (l : List UInt8) (e z : Int) (hz : (Lit.int .i64 z).wf = true) (h : QBt bad w Q ao l.length c at0 e) (hr : Rd w (.slice ao l.length c) l) (ha : at0 ≤ l.length) (hl : l.length ≤ 140737488355328)
 (hQ : ∀ a, ao = some a → 0 < l.length → a.block ≠ Q) :
 Calls Tryz.prog 78 #[.pointer (some ⟨Q, 0, none⟩), .int .i64 z] w (QText9 bad w Q ao l.length c at0 (textS (nn z) (l.drop at0) e)) := by
 have hQw : Hid (Q < w.heap.size) := lt_of_block h
 have hle := lookS_le (nn z) (l.drop at0) e
 have hca := lookS_cases9 (nn z) (l.drop at0) e
 have hdl : (l.drop at0).length = l.length - at0 := List.length_drop
 have HT : Hid (textS (nn z) (l.drop at0) e = if (lookS (nn z) (l.drop at0) e).2.1 = 0 then ([], 0, (lookS (nn z) (l.drop at0) e).2.2)
  else if (l.drop at0).length - (lookS (nn z) (l.drop at0) e).2.1 < (lookS (nn z) (l.drop at0) e).1 then ([], 0, 8)
  else (((l.drop at0).drop (lookS (nn z) (l.drop at0) e).2.1).take (lookS (nn z) (l.drop at0) e).1, (lookS (nn z) (l.drop at0) e).2.1 + (lookS (nn z) (l.drop at0) e).1, (lookS (nn z) (l.drop at0) e).2.2)) := rfl
 go_enter Tryz.func78, Tryz.ntmps78
 go_wp2_with fail
 refine (ismall0_any w Q ao c at0 l e z hz h hr ha hl).mono ?_
 rintro en w1 ⟨rfl, h1, g1⟩
 generalize lookS (nn z) (l.drop at0) e = t at *
 obtain ⟨v, n, er⟩ := t
 simp only at *
 have H1 := hid h1
 have Hg := hid g1
 obtain ⟨c0, c1, c2, f1, f2⟩ := four_cellsQ h1
 clear h h1 g1
 by_cases t1 : n = 0
 · have HF : Hid (textS (nn z) (l.drop at0) e = ([], 0, er)) := by rw [HT.out, if_pos t1]; exact rfl
   have t2 : ¬ er = 0 := by omega
   subst t1
   clear HT
   go_wp2_with fail
   go_ret
   refine ⟨_, rfl, ?_, ?_, Hg.out⟩
   · rw [HF.out]; exact World.ownsRow_nil _ _ _ _
   · rw [HF.out]; exact H1.out
 · have t2 : er = 0 := by omega
   subst t2
   have hsub : (l.length : Int) - ((at0 + n : Nat) : Int) = ((l.length - (at0 + n) : Nat) : Int) := by omega
   by_cases t3 : (l.drop at0).length - n < v
   · have HF : Hid (textS (nn z) (l.drop at0) e = ([], 0, 8)) := by rw [HT.out, if_neg t1, if_pos t3]; exact rfl
     have t4 : ((l.length - (at0 + n) : Nat) : Int) < (v : Int) := by omega
     clear HT
     go_wp2_with fail
     go_quiet (fail)
     have HR := hid (QBt.set (w := w1.drewN nq) H1.out at0 8)
     go_wp2_with fail
     go_ret
     refine ⟨_, rfl, ?_, ?_, ?_⟩
     · rw [HF.out]; exact World.ownsRow_nil _ _ _ _
     · rw [HF.out]; exact HR.out.1
     · exact grown_trans (grown_trans Hg.out (grown_draw9 w1 nq _)) HR.out.2
   · have HF : Hid (textS (nn z) (l.drop at0) e = (((l.drop at0).drop n).take v, n + v, 0)) := by rw [HT.out, if_neg t1, if_neg t3]; exact rfl
     have t4 : ¬ ((l.length - (at0 + n) : Nat) : Int) < (v : Int) := by omega
     have hv : at0 + n + v ≤ l.length := by omega
     obtain ⟨ao', c', hs, h5, h6⟩ := hr.mid 22 5 Tryz.underlying22 (by kernel_rfl) (at0 + n) (at0 + n + v) (by omega) (by omega)
     rw [show at0 + n + v - (at0 + n) = v from by omega] at hs h5 h6
     have hr5 : Hid (Rd w1 (.slice ao' v c') ((l.drop (at0 + n)).take v)) := h5.kept Hg.out (by
      by_cases hl0 : 0 < l.length
      · right
        intro hk
        have := h6 Q hk
        cases ao with
        | none => simp [blk] at this
        | some a => simp only [blk, Option.some.injEq] at this; exact hQ a rfl hl0 this
      · omega)
     simp only [Int.natCast_add] at hs
     clear HT h5 h6 hr
     go_wp2_with fail
     go_quiet (fail)
     go_wp2_with fail
     obtain ⟨wx, hwx⟩ : ∃ wx, wx = w1.drewN nq := ⟨_, rfl⟩
     have d0 : wx.drew.cell? ⟨Q, 0, none⟩ = some (.slice ao l.length c) := by subst hwx; exact c0
     have d1 : wx.drew.cell? ⟨Q, 1, none⟩ = some (.int .i64 ((at0 : Int) + (n : Int))) := by subst hwx; rw [← Int.natCast_add]; exact c1
     have r1 : Hid (Rd wx.drew (.slice ao' v c') ((l.drop (at0 + n)).take v)) := by subst hwx; exact hr5.out
     rw [← hwx]
     have Hx := hid hwx
     clear hwx c0 c1 c2 f1 f2
     refine wp_region_still_tail 15 (by kernel_rfl) (by kernel_rfl) ?_
     simp only [List.take_succ_cons, List.take_zero, List.drop_succ_cons, List.drop_zero]
     change wpStill _ _ wx.drew _ _ _
     have hw : IntKind.i64.wrap ((at0 : Int) + (n : Int) + (v : Int)) = (at0 : Int) + (n : Int) + (v : Int) := by rw [IntKind.wrap_i64]; omega
     repeat still_step
     refine wpStill_nil ?_
     change wpList _ _ _ _ _ wx.drew
     have o1 : wx.drew.ownsRow w.heap.size 5 1 (.slice none 0 0) 0 [] := World.ownsRow_nil _ _ _ _
     have hsz : w.heap.size ≤ wx.drew.heap.size := by rw [Hx.out]; exact Hg.out.size
     clear hs hw
     go_wp2_with (first
      | (at_builtin; refine wp_app rfl _ _ 22 rfl w.heap.size 5 Tryz.underlying22 (by kernel_rfl) _ _ _ rfl o1 _ _ rfl r1.out ?c1 ?c2 ?_))
     case c1 => rw [List.length_take, List.length_drop]; omega
     case c2 => exact hsz
     intro v3 x3 o3 g3
     have gx : w.grownBy x3 (some Q) := by
      have h1 : wx.drew.heap = w1.heap := by rw [Hx.out]; rfl
      have g4 : w1.grownBy x3 none := ⟨g3.os.trans (by rw [Hx.out]; rfl), g3.tape.trans (by rw [Hx.out]; rfl), g3.output.trans (by rw [Hx.out]; rfl), by rw [← h1]; exact g3.size, fun k hk hne => by rw [← h1] at hk ⊢; exact g3.block k hk hne⟩
      exact grown_trans Hg.out ⟨g4.os, g4.tape, g4.output, g4.size, fun k hk _ => g4.block k hk (by simp)⟩
     have q3 : QBt bad x3 Q ao l.length c (at0 + n) 0 := by
      have h1 : wx.drew.heap = w1.heap := by rw [Hx.out]; rfl
      have h2 := g3.block Q (by rw [h1]; exact lt_of_block H1.out) (by simp [Value.ownBlock])
      show x3.heap[Q]? = _
      rw [h2, h1]; exact H1.out
     have q4 : Hid (QBt bad (x3.setCell ⟨Q, 1, none⟩ (.int .i64 ((at0 : Int) + (n : Int) + (v : Int)))) Q ao l.length c (at0 + (n + v)) 0) := by
      have e1 : ((at0 + (n + v) : Nat) : Int) = (at0 : Int) + (n : Int) + (v : Int) := by omega
      show _ = _
      rw [e1]
      exact four_setQ1 q3
     have o4 : Hid (x3.ownsRow w.heap.size 5 1 v3 (((l.drop at0).drop n).take v).length ((((l.drop at0).drop n).take v).map bv)) := by
      have e1 : (((l.drop at0).drop n).take v).length = min v (l.length - (at0 + n)) := by rw [List.length_take, List.drop_drop, List.length_drop]
      have e2 : (((l.drop at0).drop n).take v).map bv = List.take v (List.drop (at0 + n) (List.map bv l)) := by rw [List.map_take, List.drop_drop, List.map_drop]
      rw [e1, e2]; exact o3
     have hQ3 : Hid (v3.ownBlock ≠ some Q) := by
      intro hk
      have h9 := (o3.lt Q hk).1
      have h8 := hQw.out
      omega
     have Hgx := hid gx
     obtain ⟨c0, c1, c2, f1, f2⟩ := four_cellsQ q3
     clear gx q3 o3 g3 o1 hsz d0 d1
     go_wp2_with fail
     go_ret
     refine ⟨v3, rfl, ?_, ?_, ?_⟩
     · rw [HF.out]; exact ownsRow_setCell_other o4.out (fun h => hQ3.out h) _
     · rw [HF.out]; exact q4.out
     · exact grown_trans Hgx.out (grown_set x3 ⟨Q, 1, none⟩ _)
end
end Go.Proofs.YtmdgifmigikffaaGreat
namespace Go.Proofs.YtmdgifmigikffaaGreat
open Go.RowKit Go.Deep
theorem lookS_bad {m : Nat} {l : List UInt8} {e : Int} (h : e ≠ 0) : lookS m l e = (0, 0, e) := by unfold lookS; rw [if_pos h]
theorem textS_bad {m : Nat} {l : List UInt8} {e : Int} (h : e ≠ 0) : textS m l e = ([], 0, e) := by
 unfold textS
 rw [lookS_bad h]
 simp
theorem rd_bad : ∀ (s : Sh) (st : Rst), st.2 ≠ 0 → (rdF s st).2 = st
 | .num, st, h => by simp only [rdF, lookS_bad h, List.drop_zero]
 | .int, st, h => by simp only [rdF, lookS_bad h, List.drop_zero]
 | .bool, st, h => by simp only [rdF, lookS_bad h, List.drop_zero]
 | .data, st, h => by simp only [rdF, textS_bad h, List.drop_zero]
 | .name, st, h => by simp only [rdF, textS_bad h, List.drop_zero]
 | .list s, st, h => by simp only [rdF, lookS_bad h, List.drop_zero, rdLF]
 | .nil, st, h => rfl
 | .cons s r, st, h => by
  have h1 := rd_bad s st h
  simp only [rdF]
  rw [h1]
  exact rd_bad r st h
end Go.Proofs.YtmdgifmigikffaaGreat
namespace Go.Proofs.YtmdgifmigikffaaGreat
open Go.RowKit Go.Deep
def RI (w : World) (Q : Nat) (st : Rst) : Prop :=
 ∃ (ao : Option Addr) (c at0 : Nat) (l : List UInt8) (e bad : Int), QBt bad w Q ao l.length c at0 e ∧ Rd w (.slice ao l.length c) l ∧ at0 ≤ l.length ∧ l.length ≤ 1000000 ∧ (∀ k, blk (.slice ao l.length c) = some k → k < Q) ∧ st.2 = (if bad ≠ 0 then bad else e) ∧ (st.2 = 0 → st.1 = l.drop at0)
theorem RI.lt {w : World} {Q : Nat} {st : Rst} (h : RI w Q st) : Q < w.heap.size := by
 obtain ⟨ao, c, at0, l, e, bad, h1, _⟩ := h; exact lt_of_block h1
theorem RI.keep {X : Nat → Prop} {w w' : World} {Q : Nat} {st : Rst} (h : RI w Q st) (hk : Keep X w w') (hx : ∀ k, X k → Q < k) : RI w' Q st := by
 obtain ⟨ao, c, at0, l, e, bad, h1, h2, h3, h4, h5, h6, h7⟩ := h
 refine ⟨ao, c, at0, l, e, bad, (hk.block Q (lt_of_block h1) (fun e => by have := hx Q e; omega)).trans h1, h2.keep hk (fun _ k hb hX => by have := hx k hX; have := h5 k hb; omega), h3, h4, h5, h6, h7⟩
theorem RI.bad {w : World} {Q : Nat} {st st' : Rst} (h : RI w Q st) (h1 : st.2 ≠ 0) (h2 : st'.2 = st.2) : RI w Q st' := by
 obtain ⟨ao, c, at0, l, e, bad, k1, k2, k3, k4, k5, k6, k7⟩ := h
 exact ⟨ao, c, at0, l, e, bad, k1, k2, k3, k4, k5, h2.trans k6, fun e => absurd (h2.symm.trans e) h1⟩
def RdI (s : Sh) (Q : Nat) (w : World) (st : Rst) (cs : List Value) (w' : World) : Prop :=
 ∃ b, EncN (fun k => w.heap.size ≤ k ∧ k < w'.heap.size) w' s cs b ∧ ((rdF s st).2.2 = 0 → b = (rdF s st).1) ∧ RI w' Q (rdF s st).2 ∧ Keep (fun k => k = Q) w w'
theorem RdI.bad {s : Sh} {Q : Nat} {w : World} {st : Rst} {cs : List Value} {b : List UInt8} (h : RI w Q st) (h1 : st.2 ≠ 0) (he : EncN (fun k => w.heap.size ≤ k ∧ k < w.heap.size) w s cs b) : RdI s Q w st cs w :=
 ⟨b, he, fun e => by rw [rd_bad s st h1] at e; exact absurd e h1, by rw [rd_bad s st h1]; exact h, Keep.refl _ _⟩
set_option maxHeartbeats 1000000 in
theorem ifault_any {w : World} {Q : Nat} {st : Rst} (h : RI w Q st) : Calls Tryz.prog 76 #[.pointer (some ⟨Q, 0, none⟩)] w (fun en w' => en = .returned (.bool (decide (st.2 ≠ 0))) ∧ w = w') := by
 obtain ⟨ao, c, at0, l, e, bad, h1, h2, h3, h4, h5, h6, h7⟩ := h
 have c2 : w.cell? ⟨Q, 2, none⟩ = some (.int .i64 e) := by simp [World.cell?, show w.heap[Q]? = _ from h1]
 have c3 : w.cell? ⟨Q, 3, none⟩ = some (.int .i64 bad) := by simp [World.cell?, show w.heap[Q]? = _ from h1]
 have H6 := hid h6
 clear h1 h2 h3 h4 h5 h6 h7
 by_cases hb : bad = 0
 · subst hb
   have hq : (e != 0) = decide (st.2 ≠ 0) := by rw [H6.out]; by_cases he : e = 0 <;> simp [he]
   have HQ := hid hq
   clear hq
   go_enter Tryz.func76, Tryz.ntmps76
   go_wp2_with fail
   go_ret
   rw [← HQ.out]
   exact ⟨rfl, rfl⟩
 · have hq : true = decide (st.2 ≠ 0) := by rw [H6.out]; simp [hb]
   have HQ := hid hq
   have hbb : (bad != 0) = true := by simp [hb]
   clear hq
   go_enter Tryz.func76, Tryz.ntmps76
   go_wp2_with fail
   go_ret
   rw [← HQ.out]
   exact ⟨rfl, rfl⟩
theorem RI.open {w : World} {Q : Nat} {st : Rst} (h : RI w Q st) (h0 : st.2 = 0) : ∃ (ao : Option Addr) (c at0 : Nat) (l : List UInt8), QBt 0 w Q ao l.length c at0 0 ∧ Rd w (.slice ao l.length c) l ∧ at0 ≤ l.length ∧ l.length ≤ 1000000 ∧ (∀ k, blk (.slice ao l.length c) = some k → k < Q) ∧ st = (l.drop at0, 0) := by
 obtain ⟨ao, c, at0, l, e, bad, h1, h2, h3, h4, h5, h6, h7⟩ := h
 have hb : bad = 0 := by
  by_cases hb : bad = 0
  · exact hb
  · rw [if_pos hb] at h6; exact absurd (h6.symm.trans h0) hb
 subst hb
 have he : e = 0 := by rw [if_neg (by simp)] at h6; exact h6.symm.trans h0
 subst he
 exact ⟨ao, c, at0, l, h1, h2, h3, h4, h5, Prod.ext (h7 h0) h0⟩
theorem RI.step {w w' : World} {Q : Nat} {ao : Option Addr} {c at0 n : Nat} {l : List UInt8} {e : Int} (h : QBt 0 w' Q ao l.length c (at0 + n) e) (hr : Rd w (.slice ao l.length c) l) (hg : w.grownBy w' (some Q)) (ha : at0 + n ≤ l.length) (hl : l.length ≤ 1000000) (hb : ∀ k, blk (.slice ao l.length c) = some k → k < Q) : RI w' Q ((l.drop at0).drop n, e) :=
 ⟨ao, c, at0 + n, l, e, 0, h, hr.keep (Keep.of_grown (X := fun k => k = Q) hg (fun k e => by cases e; rfl)) (fun _ k hk e => by have := hb k hk; omega), ha, hl, hb, by simp, fun _ => by rw [List.drop_drop]⟩
theorem textS_le9 (m : Nat) (l : List UInt8) (e : Int) : (textS m l e).2.1 ≤ l.length := by
 have h := lookS_le m l e
 unfold textS
 split
 · exact Nat.zero_le _
 · split
   · exact Nat.zero_le _
   · simp only; omega
theorem own_blk {w : World} {b : Nat} {e : TypeId} {n : Nat} {v : Value} {xs : List Value} (h : w.ownsRow b e 1 v n xs) {k : Nat} (hk : blk v = some k) : v.ownBlock = some k := by
 rcases h.2 with ⟨rfl, -⟩ | ⟨g, cap, cur, rfl, -⟩
 · cases hk
 · exact hk
section
variable {w : World} {Q : Nat} {st : Rst}
set_option maxHeartbeats 1000000 in
theorem inumF_any (h : RI w Q st) : Calls Tryz.prog 28 #[.pointer (some ⟨Q, 0, none⟩)] w (fun en w' => en = .returned (.int .u64 ((lookS maxU st.1 st.2).1 : Nat)) ∧ RI w' Q (st.1.drop (lookS maxU st.1 st.2).2.1, (lookS maxU st.1 st.2).2.2) ∧ Keep (fun k => k = Q) w w') := by
 have CF := hid (ifault_any h)
 by_cases h0 : st.2 = 0
 · obtain ⟨ao, c, at0, l, h1, h2, h3, h4, h5, rfl⟩ := h.open h0
   have CN := hid (inum_any w Q ao c at0 l 0 h1 h2 h3 (by omega))
   have hle := lookS_le maxU (l.drop at0) 0
   rw [List.length_drop] at hle
   have HH := hid (And.intro h2 (And.intro (show at0 + (lookS maxU (l.drop at0) 0).2.1 ≤ l.length by omega) (And.intro h4 h5)))
   clear h h1 h2 h3 h4 h5 hle h0
   go_enter Tryz.func28, Tryz.ntmps28
   go_wp2_with (first | (go_at_call 76; refine CF.out.mono ?_; rintro en w1 ⟨rfl, rfl⟩) | (go_at_call 77; refine CN.out.mono ?_; rintro en w2 ⟨rfl, hq, hg⟩; have HQ := hid hq; have HG := hid hg; clear hq hg))
   go_ret
   exact ⟨rfl, RI.step HQ.out HH.out.1 HG.out HH.out.2.1 HH.out.2.2.1 HH.out.2.2.2, Keep.of_grown HG.out (fun k e => by cases e; rfl)⟩
 · have hd : decide (st.2 ≠ 0) = true := by simp [h0]
   rw [hd] at CF
   have HH := hid h
   have e1 : lookS maxU st.1 st.2 = (0, 0, st.2) := lookS_bad h0
   have E1 := hid e1
   clear h hd e1
   go_enter Tryz.func28, Tryz.ntmps28
   go_wp2_with (first | (go_at_call 76; refine CF.out.mono ?_; rintro en w1 ⟨rfl, rfl⟩))
   go_ret
   rw [E1.out]
   exact ⟨rfl, HH.out, Keep.refl _ _⟩
theorem inum9_any (h : RI w Q st) : Calls Tryz.prog 28 #[.pointer (some ⟨Q, 0, none⟩)] w (fun en w' => ∃ v, en = .returned v ∧ RdI .num Q w st [v] w') :=
 (inumF_any h).mono (by rintro en w' ⟨rfl, h1, h2⟩; exact ⟨_, rfl, _, ⟨_, by have := lookS_lt maxU st.1 st.2; omega, rfl, rfl⟩, fun _ => rfl, h1, h2⟩)
set_option maxHeartbeats 1000000 in
theorem iwide9_any (h : RI w Q st) : Calls Tryz.prog 98 #[.pointer (some ⟨Q, 0, none⟩)] w (fun en w' => ∃ z : Int, en = .returned (.int .i64 z) ∧ RdI .int Q w st [.int .i64 z] w') := by
 have CF := hid (ifault_any h)
 by_cases h0 : st.2 = 0
 · obtain ⟨ao, c, at0, l, h1, h2, h3, h4, h5, rfl⟩ := h.open h0
   have CN := hid (iint_any w Q ao c at0 l 0 h1 h2 h3 (by omega))
   have hle := lookS_le maxU (l.drop at0) 0
   rw [List.length_drop] at hle
   have HH := hid (And.intro h2 (And.intro (show at0 + (lookS maxU (l.drop at0) 0).2.1 ≤ l.length by omega) (And.intro h4 h5)))
   clear h h1 h2 h3 h4 h5 hle h0
   go_enter Tryz.func98, Tryz.ntmps98
   go_wp2_with (first | (go_at_call 76; refine CF.out.mono ?_; rintro en w1 ⟨rfl, rfl⟩) | (go_at_call 144; refine CN.out.mono ?_; rintro en w2 ⟨rfl, hq, hg⟩; have HQ := hid hq; have HG := hid hg; clear hq hg))
   go_ret
   exact ⟨_, rfl, _, ⟨_, unzig_wf (lookS_lt _ _ _), rfl, rfl⟩, fun _ => rfl, RI.step HQ.out HH.out.1 HG.out HH.out.2.1 HH.out.2.2.1 HH.out.2.2.2, Keep.of_grown HG.out (fun k e => by cases e; rfl)⟩
 · have hd : decide (st.2 ≠ 0) = true := by simp [h0]
   rw [hd] at CF
   have HH := hid h
   clear h hd
   go_enter Tryz.func98, Tryz.ntmps98
   go_wp2_with (first | (go_at_call 76; refine CF.out.mono ?_; rintro en w1 ⟨rfl, rfl⟩))
   go_ret
   exact ⟨0, rfl, RdI.bad HH.out h0 ⟨0, by decide, rfl, rfl⟩⟩
set_option maxHeartbeats 1000000 in
theorem iint9_any (h : RI w Q st) : Calls Tryz.prog 33 #[.pointer (some ⟨Q, 0, none⟩)] w (fun en w' => ∃ v, en = .returned v ∧ RdI .int Q w st [v] w') := by
 have CW : Hid (Calls Tryz.prog 98 #[.pointer (some ⟨Q, 0, none⟩)] w (fun en w' => ∃ z : Int, en = .returned (.int .i64 z) ∧ wrap64 z = z ∧ IntKind.i64.wrap z = z ∧ RdI .int Q w st [.int .i64 z] w')) := hid ((iwide9_any h).mono (by
  rintro en w' ⟨z, rfl, hz⟩
  refine ⟨z, rfl, ?_, ?_, hz⟩
  · obtain ⟨b, ⟨z', hwf, e9, -⟩, -⟩ := hz
    cases e9
    have := bounds_i64 hwf
    simp only [wrap64]; omega
  · obtain ⟨b, ⟨z', hwf, e9, -⟩, -⟩ := hz
    cases e9
    have := bounds_i64 hwf
    rw [IntKind.wrap_i64]; omega))
 clear h
 go_enter Tryz.func33, Tryz.ntmps33
 go_wp2_with (first | (go_at_call 98; refine CW.out.mono ?_; rintro en w1 ⟨z, rfl, hw, hw2, hz⟩; have HZ := hid hz; clear hz))
 go_ret
 exact ⟨_, rfl, HZ.out⟩
set_option maxHeartbeats 1000000 in
theorem ibytes9_any (h : RI w Q st) : Calls Tryz.prog 29 #[.pointer (some ⟨Q, 0, none⟩)] w (fun en w' => ∃ v, en = .returned v ∧ RdI .data Q w st [v] w') := by
 have CF := hid (ifault_any h)
 by_cases h0 : st.2 = 0
 · obtain ⟨ao, c, at0, l, h1, h2, h3, h4, h5, rfl⟩ := h.open h0
   have CN := hid (itext_any w Q ao c at0 l 0 65536 (by decide) h1 h2 h3 (by omega) (fun a ha hl e => by subst ha; have := h5 a.block rfl; omega))
   have hle := textS_le9 65536 (l.drop at0) 0
   rw [List.length_drop] at hle
   have HH := hid (And.intro h2 (And.intro (show at0 + (textS 65536 (l.drop at0) 0).2.1 ≤ l.length by omega) (And.intro h4 h5)))
   clear h h1 h2 h3 h4 h5 hle h0
   go_enter Tryz.func29, Tryz.ntmps29
   go_wp2_with (first | (go_at_call 76; refine CF.out.mono ?_; rintro en w1 ⟨rfl, rfl⟩) | (go_at_call 78; refine CN.out.mono ?_; rintro en w2 ⟨x, rfl, ho, hq, hg⟩; have HO := hid ho; have HQ := hid hq; have HG := hid hg; clear ho hq hg))
   go_ret
   have hr := Rd.own HO.out
   obtain ⟨a, k, rfl, -⟩ := hr
   have hm := textS_len 65536 (l.drop at0) 0
   refine ⟨_, rfl, _, ⟨_, _, rfl, rfl, Rd.own HO.out, by have : (textS 65536 (l.drop at0) 0).1.length ≤ 65536 := hm; exact Nat.le_trans this (by decide), rfl, fun k hk => ⟨HO.out.lt k (own_blk HO.out hk), Thaw.own HO.out hk⟩⟩, fun _ => rfl, RI.step HQ.out HH.out.1 HG.out HH.out.2.1 HH.out.2.2.1 HH.out.2.2.2, Keep.of_grown HG.out (fun k e => by cases e; rfl)⟩
 · have hd : decide (st.2 ≠ 0) = true := by simp [h0]
   rw [hd] at CF
   have HH := hid h
   clear h hd
   go_enter Tryz.func29, Tryz.ntmps29
   go_wp2_with (first | (go_at_call 76; refine CF.out.mono ?_; rintro en w1 ⟨rfl, rfl⟩))
   go_ret
   exact ⟨_, rfl, RdI.bad HH.out h0 ⟨_, [], rfl, rfl, Rd.nil _, by decide, rfl, fun k hk => by cases hk⟩⟩
set_option maxHeartbeats 1000000 in
theorem itext9_any (h : RI w Q st) : Calls Tryz.prog 41 #[.pointer (some ⟨Q, 0, none⟩)] w (fun en w' => ∃ v, en = .returned v ∧ RdI .name Q w st [v] w') := by
 have CB := hid (ibytes9_any h)
 clear h
 go_enter Tryz.func41, Tryz.ntmps41
 go_wp2_with (first | (go_at_call 29; refine CB.out.mono ?_; rintro en w1 ⟨v, rfl, b, ⟨x, l, hx, ho, hr, hl, hb, hN⟩, h2, h3, h4⟩; cases hx; have c1 := hr.conv (P := Tryz.prog) 22 9 5 Tryz.underlying22 Tryz.underlying5 Tryz.underlying9; have HH := hid (And.intro hl (And.intro hb (And.intro h2 (And.intro h3 h4)))); clear ho hr hl hb hN h2 h3 h4))
 go_ret
 exact ⟨_, rfl, b, ⟨l, rfl, HH.out.1, HH.out.2.1⟩, HH.out.2.2.1, HH.out.2.2.2.1, HH.out.2.2.2.2⟩
theorem look_great {m : Nat} {l : List UInt8} (hm : (m : Nat) ≤ maxU) : (((lookS maxU l 0).2.2 = 0 ∧ m < (lookS maxU l 0).1) ∧ lookS m l 0 = (0, 0, 9)) ∨ (¬ ((lookS maxU l 0).2.2 = 0 ∧ m < (lookS maxU l 0).1) ∧ lookS m l 0 = lookS maxU l 0) := by
 rw [lookS_num']
 unfold lookS
 rw [if_neg (by simp)]
 by_cases h : (rdN 0 0 l).2.2 = 0 ∧ m < (rdN 0 0 l).1
 · rw [if_pos h]; exact .inl ⟨h, rfl⟩
 · rw [if_neg h]; exact .inr ⟨h, rfl⟩
theorem look_fault (l : List UInt8) : (lookS maxU l 0).2.2 ≠ 0 → (lookS maxU l 0).1 = 0 := by
 rw [lookS_num']
 intro h
 rcases (rdN_bounds l 0 0 (by decide) (by omega)).2 with h9 | h9
 · exact absurd h9.1 h
 · exact h9.1
theorem look_fault2 (m : Nat) (l : List UInt8) (e : Int) (h : (lookS m l e).2.2 ≠ 0) : (lookS m l e).1 = 0 := by
 unfold lookS at h ⊢
 split
 · rfl
 · rename_i he
   rw [if_neg he] at h
   split
   · rfl
   · rename_i hg
     rw [if_neg hg] at h
     rcases (rdN_bounds l 0 0 (by decide) (by omega)).2 with h9 | h9
     · exact absurd h9.1 h
     · exact h9.1
theorem RI.mark (h : RI w Q st) (h0 : st.2 = 0) (st' : Rst) (hs : st'.2 = 9) : RI (w.setCell ⟨Q, 3, none⟩ (.int .i64 9)) Q st' := by
 obtain ⟨ao, c, at0, l, h1, h2, h3, h4, h5, rfl⟩ := h.open h0
 refine ⟨ao, c, at0, l, 0, 9, four_setQ 3 (.int .i64 9) h1, h2.keep (Keep.set (X := fun k => k = Q) w ⟨Q, 3, none⟩ _ rfl) (fun _ k hk e => by have := h5 k hk; omega), h3, h4, h5, by rw [hs]; rfl, fun e => by rw [hs] at e; exact absurd e (by decide)⟩
theorem RI.badcell (h : RI w Q st) : ∃ z : Int, w.cell? ⟨Q, 3, none⟩ = some (.int .i64 z) ∧ w.frozen? ⟨Q, 3, none⟩ = false := by
 obtain ⟨ao, c, at0, l, e, bad, h1, _⟩ := h
 exact ⟨bad, by simp [World.cell?, show w.heap[Q]? = _ from h1], by simp [World.frozen?, show w.heap[Q]? = _ from h1]⟩
set_option maxHeartbeats 2000000 in
theorem ibool9_any (h : RI w Q st) : Calls Tryz.prog 34 #[.pointer (some ⟨Q, 0, none⟩)] w (fun en w' => ∃ v, en = .returned v ∧ RdI .bool Q w st [v] w') := by
 have CN := hid (inumF_any h)
 have HH := hid h
 obtain ⟨v, hv⟩ : ∃ v, v = (lookS maxU st.1 st.2).1 := ⟨_, rfl⟩
 obtain ⟨s1, hs1⟩ : ∃ s1 : Rst, s1 = (st.1.drop (lookS maxU st.1 st.2).2.1, (lookS maxU st.1 st.2).2.2) := ⟨_, rfl⟩
 rw [← hv, ← hs1] at CN
 have HV := hid (And.intro hv hs1)
 have hvl : v < 18446744073709551616 := by rw [hv]; have := lookS_lt maxU st.1 st.2; omega
 have hbq : ((v : Int) == 1) = decide (v = 1) := by rw [Bool.eq_iff_iff]; simp only [beq_iff_eq, decide_eq_true_eq]; omega
 clear hv hs1 h
 by_cases hg : 1 < v
 · have hgi : (1 : Int) < (v : Int) := by omega
   have h0 : st.2 = 0 ∧ s1.2 = 0 := by
    have e1 := HV.out.1
    have e2 := HV.out.2
    by_cases h0 : st.2 = 0
    · refine ⟨h0, ?_⟩
      rw [h0] at e1 e2
      by_cases h9 : (lookS maxU st.1 0).2.2 = 0
      · rw [e2]; exact h9
      · have := look_fault st.1 h9; omega
    · rw [lookS_bad h0] at e1; omega
   have h9 : lookS 1 st.1 st.2 = (0, 0, 9) := by
    have e1 := HV.out.1
    have e2 := HV.out.2
    rw [h0.1] at e1 e2 ⊢
    have e3 : s1.2 = (lookS maxU st.1 0).2.2 := by rw [e2]
    rcases look_great (m := 1) (l := st.1) (by decide) with ⟨-, e⟩ | ⟨e, -⟩
    · exact e
    · exact absurd ⟨e3.symm.trans h0.2, by omega⟩ e
   have H0 := hid (And.intro h0.1 (And.intro h0.2 h9))
   have hv1 : (decide (v = 1)) = false := by simp; omega
   clear h0 h9
   go_enter Tryz.func34, Tryz.ntmps34
   go_wp2_with (first | (go_at_call 28; refine CN.out.mono ?_; rintro en w1 ⟨rfl, hr, hk⟩; obtain ⟨z, c3, f3⟩ := hr.badcell; have HR := hid hr; have HK := hid hk; have CF := hid (ifault_any hr); rw [show decide (s1.2 ≠ 0) = false from by simp [H0.out.2.1]] at CF; clear hr hk) | (go_at_call 76; refine CF.out.mono ?_; rintro en w2 ⟨rfl, rfl⟩))
   go_ret
   refine ⟨_, rfl, numL 0, ⟨false, rfl, rfl⟩, fun e => ?_, ?_, HK.out.trans (Keep.set (X := fun k => k = Q) _ ⟨Q, 3, none⟩ _ rfl)⟩
   · exfalso; simp only [rdF, H0.out.2.2] at e; exact absurd e (by decide)
   · simp only [rdF, H0.out.2.2]; exact HR.out.mark H0.out.2.1 _ rfl
 · have hgi : ¬ (1 : Int) < (v : Int) := by omega
   have h9 : lookS 1 st.1 st.2 = lookS maxU st.1 st.2 := by
    by_cases h0 : st.2 = 0
    · have e1 := HV.out.1
      rw [h0] at e1 ⊢
      rcases look_great (m := 1) (l := st.1) (by decide) with ⟨e, -⟩ | ⟨-, e⟩
      · exact absurd e.2 (by omega)
      · exact e
    · rw [lookS_bad h0, lookS_bad h0]
   have H9 := hid h9
   clear h9
   go_enter Tryz.func34, Tryz.ntmps34
   go_wp2_with (first | (go_at_call 28; refine CN.out.mono ?_; rintro en w1 ⟨rfl, hr, hk⟩; have HR := hid hr; have HK := hid hk; clear hr hk))
   go_ret
   refine ⟨_, rfl, numL (if decide (v = 1) then 1 else 0), ⟨decide (v = 1), rfl, rfl⟩, fun _ => ?_, ?_, HK.out⟩
   · simp only [rdF, H9.out]; rw [← HV.out.1]
   · simp only [rdF, H9.out]; rw [← HV.out.2]; exact HR.out
def IMany (w : World) (Q : Nat) (st : Rst) (en : Ending) (w' : World) : Prop := en = .returned (.int .i64 ((lookS 5000 st.1 st.2).1 : Nat)) ∧ RI w' Q (st.1.drop (lookS 5000 st.1 st.2).2.1, (lookS 5000 st.1 st.2).2.2) ∧ Keep (fun k => k = Q) w w'
set_option maxHeartbeats 2000000 in
theorem imany9_any (h : RI w Q st) : Calls Tryz.prog 99 #[.pointer (some ⟨Q, 0, none⟩)] w (IMany w Q st) := by
 have CN := hid (inumF_any h)
 obtain ⟨v, hv⟩ : ∃ v, v = (lookS maxU st.1 st.2).1 := ⟨_, rfl⟩
 obtain ⟨s1, hs1⟩ : ∃ s1 : Rst, s1 = (st.1.drop (lookS maxU st.1 st.2).2.1, (lookS maxU st.1 st.2).2.2) := ⟨_, rfl⟩
 rw [← hv, ← hs1] at CN
 have HV := hid (And.intro hv hs1)
 clear hv hs1 h
 by_cases hg : 5000 < v
 · have hgi : (5000 : Int) < (v : Int) := by omega
   have h0 : st.2 = 0 ∧ s1.2 = 0 := by
    have e1 := HV.out.1
    have e2 := HV.out.2
    by_cases h0 : st.2 = 0
    · refine ⟨h0, ?_⟩
      rw [h0] at e1 e2
      by_cases h9 : (lookS maxU st.1 0).2.2 = 0
      · rw [e2]; exact h9
      · have := look_fault st.1 h9; omega
    · rw [lookS_bad h0] at e1; omega
   have h9 : lookS 5000 st.1 st.2 = (0, 0, 9) := by
    have e1 := HV.out.1
    have e2 := HV.out.2
    rw [h0.1] at e1 e2 ⊢
    have e3 : s1.2 = (lookS maxU st.1 0).2.2 := by rw [e2]
    rcases look_great (m := 5000) (l := st.1) (by decide) with ⟨-, e⟩ | ⟨e, -⟩
    · exact e
    · exact absurd ⟨e3.symm.trans h0.2, by omega⟩ e
   have H0 := hid (And.intro h0.1 (And.intro h0.2 h9))
   clear h0 h9
   go_enter Tryz.func99, Tryz.ntmps99
   go_upto_region 3 with (first | (go_at_call 28; refine CN.out.mono ?_; rintro en w1 ⟨rfl, hr, hk⟩; have HR := hid hr; have HK := hid hk; have CF := hid (ifault_any hr); rw [show decide (s1.2 ≠ 0) = false from by simp [H0.out.2.1]] at CF; clear hr hk) | (go_at_call 76; refine CF.out.mono ?_; rintro en w2 ⟨rfl, rfl⟩))
   obtain ⟨z, c3, f3⟩ := HR.out.badcell
   have HM := hid (HR.out.mark H0.out.2.1 (st.1, 9) rfl)
   have HK2 := hid (HK.out.trans (Keep.set (X := fun k => k = Q) _ ⟨Q, 3, none⟩ (.int .i64 9) rfl))
   have CF2 := hid (ifault_any HM.out)
   rw [show decide (((st.1, 9) : Rst).2 ≠ 0) = true from rfl] at CF2
   clear CF CN
   go_wp2_with (first | (go_at_call 76; refine CF2.out.mono ?_; rintro en w3 ⟨rfl, rfl⟩))
   go_ret
   refine ⟨?_, ?_, HK2.out⟩
   · rw [H0.out.2.2]; rfl
   · rw [H0.out.2.2]; exact HM.out
 · have hgi : ¬ (5000 : Int) < (v : Int) := by omega
   have h9 : lookS 5000 st.1 st.2 = lookS maxU st.1 st.2 := by
    by_cases h0 : st.2 = 0
    · have e1 := HV.out.1
      rw [h0] at e1 ⊢
      rcases look_great (m := 5000) (l := st.1) (by decide) with ⟨e, -⟩ | ⟨-, e⟩
      · exact absurd e.2 (by omega)
      · exact e
    · rw [lookS_bad h0, lookS_bad h0]
   have H9 := hid h9
   clear h9
   by_cases hf : s1.2 = 0
   · have hd : decide (s1.2 ≠ 0) = false := by simp [hf]
     have hw : IntKind.i64.wrap (v : Int) = (v : Int) := by rw [IntKind.wrap_i64]; omega
     have hw2 : wrap64 (v : Int) = (v : Int) := by simp only [wrap64]; omega
     have HD := hid hd
     clear hd hf
     go_enter Tryz.func99, Tryz.ntmps99
     go_wp2_with (first | (go_at_call 28; refine CN.out.mono ?_; rintro en w1 ⟨rfl, hr, hk⟩; have HR := hid hr; have HK := hid hk; have CF := hid (ifault_any hr); rw [HD.out] at CF; clear hr hk) | (go_at_call 76; refine CF.out.mono ?_; rintro en w2 ⟨rfl, rfl⟩))
     go_ret
     refine ⟨?_, ?_, HK.out⟩
     · rw [H9.out, ← HV.out.1]; rfl
     · rw [H9.out, ← HV.out.2]; exact HR.out
   · have hd : decide (s1.2 ≠ 0) = true := by simp [hf]
     have HD := hid hd
     have HF := hid hf
     clear hd hf
     go_enter Tryz.func99, Tryz.ntmps99
     go_wp2_with (first | (go_at_call 28; refine CN.out.mono ?_; rintro en w1 ⟨rfl, hr, hk⟩; have HR := hid hr; have HK := hid hk; have CF := hid (ifault_any hr); rw [HD.out] at CF; clear hr hk) | (go_at_call 76; refine CF.out.mono ?_; rintro en w2 ⟨rfl, rfl⟩))
     go_ret
     have hv0 : v = 0 := by
      have e1 := HV.out.1
      have e2 := HV.out.2
      by_cases h0 : st.2 = 0
      · rw [h0] at e1 e2
        rw [e1]
        refine look_fault st.1 (fun h => HF.out ?_)
        rw [e2]; exact h
      · rw [lookS_bad h0] at e1; exact e1
     refine ⟨?_, ?_, HK.out⟩
     · rw [H9.out, ← HV.out.1, hv0]; rfl
     · rw [H9.out, ← HV.out.2]; exact HR.out
end
end Go.Proofs.YtmdgifmigikffaaGreat
