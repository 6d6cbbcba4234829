import Derived.WalkKit
import Derived.OpenShut
import Derived.Test.YtiblambiebojmaaRows
import Derived.WalkSpells
import Derived.WalkLawsBesides
import Derived.Laws.AppendOwnNone
import Derived.ProofKit
import Derived.ShutString
import Derived.ChangeOld
import Derived.Below
import Derived.SizedLaws
import Derived.Deep.Slices
import Derived.Deep.AppendLies
import Derived.Deep.Strs
import Derived.Deep.RegionHeld3
import Derived.Lib.ConvBytes
import Derived.Laws.AppendOwn
import Derived.Deep.CutRange
import Derived.Lib.SlBytesConst
import Derived.Deep.MidRow
import Derived.Great.Walk
import Derived.Test.YtiblambiebojmaaWK1
import Derived.Test.YtiblambiebojmaaWK2
import Derived.Test.YtiblambiebojmaaWK3
import Derived.Test.YtiblambiebojmaaWK4
import Derived.Test.YtiblambiebojmaaWK6
set_option linter.unusedVariables false
set_option linter.unusedSimpArgs false
set_option linter.unusedVariables false
set_option linter.unusedSimpArgs false
set_option maxRecDepth 100000
namespace Go.Proofs.Ytiblambiebojmaa
open Go.RowKit Go.Deep

set_option maxHeartbeats 8000000 in
theorem wtopCall_any {W0 : World} {v0 v1 v2 : Value} {b0 b1 b2 : List UInt8} (e0 : Enc W0 .num [v0] b0) (e1 : Enc W0 .num [v1] b1) (e2 : Enc W0 .data [v2] b2) (hl : (b0 ++ (b1 ++ b2)).length ≤ 1000000000000) :
    Calls Try.prog 9 #[.agg #[v0, v1, v2]] W0 (Gives 5 W0 (b0 ++ (b1 ++ b2))) := by
  have H0 := hid (St.begin W0 #[v0, v1, v2] 25 69)
  have C := fun (w0 : World) (a B : Nat) (h : St 69 W0 [(B, .cells #[v0, v1, v2] 25 (0, 0))] a w0 []) => wCall_any h e0 e1 e2 (by rw [List.length_nil, Nat.zero_add]; exact hl)
  have CH := hid C
  clear C hl e0 e1 e2
  go_enter Try.func9, Try.ntmps9
  go_upto_region 2 with fail
  generalize (W0.alloc (.cells #[v0, v1, v2] 25)).alloc (.cells #[.slice none 0 0] 69) = w0 at *
  obtain ⟨B, hB⟩ : ∃ B, B = W0.heap.size := ⟨_, rfl⟩
  obtain ⟨a, ha⟩ : ∃ a, a = W0.heap.size + 1 := ⟨_, rfl⟩
  rw [← ha, ← hB] at H0
  try rw [← ha]
  try rw [← hB]
  clear hB ha
  have CC := hid (CH.out _ _ _ H0.out)
  have x0 := box_cell H0.out 0 v0 rfl
  have x1 := box_cell H0.out 1 v1 rfl
  have x2 := box_cell H0.out 2 v2 rfl
  go_upto_region 3 with (first | (go_at_call 22; refine CC.out.mono ?_; rintro en w1 ⟨rfl, h1⟩; have H1 := hid h1; clear h1))
  obtain ⟨cx, hx, hg⟩ := St.ends (show St 69 W0 _ a _ (b0 ++ (b1 ++ b2)) from H1.out)
  obtain ⟨z0, z1⟩ := one_cell hx
  have HG := hid hg
  clear hx hg x0 x1 x2
  go_wp2_with fail
  go_ret
  exact HG.out

set_option maxHeartbeats 8000000 in
theorem wtopCatalog_any {W0 : World} {v0 v1 v2 v3 : Value} {b0 b1 b2 b3 : List UInt8} (e0 : Enc W0 .int [v0] b0) (e1 : Enc W0 .int [v1] b1) (e2 : Enc W0 (.list sTable) [v2] b2) (e3 : Enc W0 (.list sIndex) [v3] b3) (hl : (b0 ++ (b1 ++ (b2 ++ b3))).length ≤ 1000000000000) :
    Calls Try.prog 15 #[.agg #[v0, v1, v2, v3]] W0 (Gives 5 W0 (b0 ++ (b1 ++ (b2 ++ b3)))) := by
  have H0 := hid (St.begin W0 #[v0, v1, v2, v3] 44 69)
  have C := fun (w0 : World) (a B : Nat) (h : St 69 W0 [(B, .cells #[v0, v1, v2, v3] 44 (0, 0))] a w0 []) => wCatalog_any h e0 e1 e2 e3 (by rw [List.length_nil, Nat.zero_add]; exact hl)
  have CH := hid C
  clear C hl e0 e1 e2 e3
  go_enter Try.func15, Try.ntmps15
  go_upto_region 2 with fail
  generalize (W0.alloc (.cells #[v0, v1, v2, v3] 44)).alloc (.cells #[.slice none 0 0] 69) = w0 at *
  obtain ⟨B, hB⟩ : ∃ B, B = W0.heap.size := ⟨_, rfl⟩
  obtain ⟨a, ha⟩ : ∃ a, a = W0.heap.size + 1 := ⟨_, rfl⟩
  rw [← ha, ← hB] at H0
  try rw [← ha]
  try rw [← hB]
  clear hB ha
  have CC := hid (CH.out _ _ _ H0.out)
  have x0 := box_cell H0.out 0 v0 rfl
  have x1 := box_cell H0.out 1 v1 rfl
  have x2 := box_cell H0.out 2 v2 rfl
  have x3 := box_cell H0.out 3 v3 rfl
  go_upto_region 3 with (first | (go_at_call 38; refine CC.out.mono ?_; rintro en w1 ⟨rfl, h1⟩; have H1 := hid h1; clear h1))
  obtain ⟨cx, hx, hg⟩ := St.ends (show St 69 W0 _ a _ (b0 ++ (b1 ++ (b2 ++ b3))) from H1.out)
  obtain ⟨z0, z1⟩ := one_cell hx
  have HG := hid hg
  clear hx hg x0 x1 x2 x3
  go_wp2_with fail
  go_ret
  exact HG.out

end Go.Proofs.Ytiblambiebojmaa

set_option linter.unusedVariables false
set_option linter.unusedSimpArgs false
set_option maxRecDepth 100000
namespace Go.Proofs.Ytiblambiebojmaa
open Go.RowKit Go.Deep

theorem rd_new (W : World) (l : List UInt8) (t : TypeId) (z : Nat × Nat) (n : Nat) (hn : n = l.length) (hl : l.length ≤ 1000) : Rd (W.alloc (.cells (l.map bv).toArray t z)) (.slice (some ⟨W.heap.size, 0, none⟩) n n) l := by
  subst hn
  refine ⟨some ⟨W.heap.size, 0, none⟩, l.length, rfl, Nat.le_refl _, by unfold maxLen; omega, (fun h => by cases h), fun a ha j u hu => ?_⟩
  cases ha
  rw [show Addr.add ⟨W.heap.size, 0, none⟩ j = ⟨W.heap.size, j, none⟩ from by simp [Addr.add]; omega]
  unfold World.cell?
  rw [heap_alloc_new]
  show ((l.map bv).toArray)[j]? = _
  rw [List.getElem?_toArray]
  first | exact hu | (rw [List.getElem?_map, hu]; rfl)

theorem awakeB : numL 1 ++ (numL 2 ++ textL [97]) = [1, 2, 1, 97] := by
  unfold textL
  rw [numL_lt (by decide), numL_lt (by decide), numL_lt (by decide)]
  decide

set_option maxHeartbeats 1000000 in
theorem xawake_any (w : World) : Calls Try.prog 7 #[] w fun e w' => e = .returned (.bool true) ∧ Below w.heap.size w w' := by
  have cv := Lib.run_convert_bytes_const (P := Try.prog) w 23 5 #[.int .u8 97] 1 1 Try.underlying23 Try.underlying5
  simp only [List.size_toArray, List.length_cons, List.length_nil, Nat.reduceAdd] at cv
  have hb : Below w.heap.size w (w.alloc (.cells #[.int .u8 97] 5 (1, 2))) := (Below.refl _ _).alloc (Nat.le_refl _) _
  have hr : Rd (w.alloc (.cells #[.int .u8 97] 5 (1, 2))) (.slice (some ⟨w.heap.size, 0, none⟩) 1 1) [97] := rd_new w [97] 5 (1, 2) 1 rfl (by decide)
  have C : Hid (Calls Try.prog 9 #[.agg #[.int .u64 1, .int .u64 2, .slice (some ⟨w.heap.size, 0, none⟩) 1 1]] (w.alloc (.cells #[.int .u8 97] 5 (1, 2))) (Gives 5 (w.alloc (.cells #[.int .u8 97] 5 (1, 2))) [1, 2, 1, 97])) := hid (by
    have := wtopCall_any (W0 := w.alloc (.cells #[.int .u8 97] 5 (1, 2))) (v0 := .int .u64 1) (v1 := .int .u64 2) (v2 := .slice (some ⟨w.heap.size, 0, none⟩) 1 1) (b0 := numL 1) (b1 := numL 2) (b2 := textL [97])
      ⟨1, by decide, rfl, rfl⟩ ⟨2, by decide, rfl, rfl⟩ ⟨_, [97], rfl, rfl, hr, by decide, rfl⟩ (by rw [awakeB]; decide)
    rw [awakeB] at this
    exact this)
  have HB := hid hb
  clear hr hb
  go_enter Try.func7, Try.ntmps7
  go_upto_region 2 with (first | (go_at_call 9; refine C.out.mono ?_; rintro en w2 ⟨vT, rfl, hx, hb2⟩; have HX := hid hx; have HB2 := hid (HB.out.trans (hb2.mono HB.out.size)); clear hx hb2))
  have hx := HX.out
  rcases hx.2 with ⟨rfl, hn⟩ | ⟨g, cap, cur, rfl, hg1, hg, hn, hc, hs, ht⟩
  · simp at hn
  have hc0 := hx.cells rfl 0 _ rfl
  have hc1 := hx.cells rfl 1 _ rfl
  have hc2 := hx.cells rfl 2 _ rfl
  have hc3 := hx.cells rfl 3 _ rfl
  simp only [WideShapes.add_plain, bv] at hc0 hc1 hc2 hc3
  have hcap : 4 ≤ cap := hn
  clear hs ht hg hx hn HX cv
  go_wp2_with fail
  go_ret
  exact ⟨rfl, HB2.out⟩

open Go.ChangeShapes Go.WideShapes Go.ChangeAt
/-- A struct that came in. -/
theorem struct_in {H : Type} {enc : TypeId × Value → H} {W : World} {base : Nat} {v : Value} {d : DataW H} {p : List MemPlace} (n : Nat) (s : Sh) (t : TypeId) {fs : Array Field} (hu : Try.prog.underlying t = some (.struct fs)) (ho : ofT n s t = true)
    (hw : Value.okWide Try.prog W .any base t v) (h : DataW.Trod enc Try.prog W 0 (fun _ => true) true t v d p) (hb : Rows.uptoBulk d ≤ 1048576) : ∃ cs bs, v = .agg cs.toArray ∧ Enc W s cs bs ∧ bs.length ≤ 10485760 := by
  unfold Value.okWide at hw
  rw [hu] at hw
  obtain ⟨cs, rfl, hsz, -⟩ := hw
  obtain ⟨fuel, hf⟩ := h
  obtain ⟨bs, h1, h2⟩ := opens (enc := enc) (W := W) n s t fuel cs.toList (d, p) ho hf hb
  exact ⟨cs.toList, bs, by simp, h1, by simp only at h2; omega⟩
theorem bulk_at {H : Type} {ds : List (DataW H)} (hk : Rows.uptoSmall H ds = true) {d : DataW H} (h : d ∈ ds) : Rows.uptoBulk d ≤ 1048576 := Nat.le_trans (bulk_mem h) (of_decide_eq_true hk)
theorem list_len {W : World} {s : Sh} {a : Option Addr} {n c : Nat} {b : List UInt8} (h : Enc W (.list s) [.slice a n c] b) : n ≤ c ∧ n ≤ 1048576 := by
  obtain ⟨a', n', c', M, hv, hL, -⟩ := list_open h
  cases hv
  exact ⟨hL.cap.1, hL.cap.2.1⟩
end Go.Proofs.Ytiblambiebojmaa

set_option linter.unusedVariables false
set_option linter.unusedSimpArgs false
set_option maxRecDepth 100000
namespace Go.Proofs.Ytiblambiebojmaa
open Go.RowKit Go.Deep

theorem row_at {w : World} {b : Nat} {cs : List Value} {t : TypeId} {i : Nat} {u : Value} (h : w.heap[b]? = some (.cells cs.toArray t (0, 0))) (hi : cs[i]? = some u) : w.cell? ⟨b, i, none⟩ = some u ∧ w.frozen? ⟨b, i, none⟩ = false := by
  constructor
  · simp only [World.cell?, h]; simpa using hi
  · simp [World.frozen?, h]
theorem row_put {w : World} {b : Nat} {cs : List Value} {t : TypeId} (h : w.heap[b]? = some (.cells cs.toArray t (0, 0))) (i : Nat) (v : Value) : (w.setCell ⟨b, i, none⟩ v).heap[b]? = some (.cells (cs.set i v).toArray t (0, 0)) := by
  have hlt := lt_of_block h
  have h' : w.heap[b] = .cells cs.toArray t (0, 0) := by simpa [Array.getElem?_eq_getElem hlt] using h
  show (w.heap.modify b _)[b]? = _
  rw [Array.getElem?_eq_getElem (by simpa using hlt), Array.getElem_modify_self, h']
  simp

/-- What a field's reading leaves. -/
def TkP (s : Sh) (R B : Nat) (w : World) (st : Rst) (cs : List Value) (t : TypeId) (i : Nat) (v : Value) (w' : World) : Prop :=
  EncN (fun k => w.heap.size ≤ k ∧ k < w'.heap.size) w' s [v] (rdF s st).1 ∧ w'.heap[B]? = some (.cells (cs.set i v).toArray t (0, 0)) ∧ RAt w' R (rdF s st).2.1 (rdF s st).2.2 ∧ Keep (fun k => k = R ∨ k = B) w w'

theorem RdP.undrew {s : Sh} {R : Nat} {w w' : World} {st : Rst} {cs : List Value} (h : RdP s R w.drew st cs w') : RdP s R w st cs w' := ⟨h.1, h.2.1, ⟨h.2.2.os, h.2.2.tape, h.2.2.output, h.2.2.size, h.2.2.block⟩⟩

/-- A value that was read is stored. -/
theorem RdP.store {s : Sh} {R B : Nat} {w w' : World} {st : Rst} {cs : List Value} {t : TypeId} {v : Value} (h : RdP s R w st [v] w') (hB : w.heap[B]? = some (.cells cs.toArray t (0, 0))) (hRB : R < B) (i : Nat) :
    TkP s R B w st cs t i v (w'.setCell ⟨B, i, none⟩ v) := by
  obtain ⟨h1, h2, h3⟩ := h
  have hlt := lt_of_block hB
  have hB' : w'.heap[B]? = some (.cells cs.toArray t (0, 0)) := (h3.block B hlt (fun e => by omega)).trans hB
  have hk : Keep (fun k => k = B) w' (w'.setCell ⟨B, i, none⟩ v) := Keep.set w' ⟨B, i, none⟩ v rfl
  refine ⟨EncN.mono (fun k h => ⟨h.1, Nat.lt_of_lt_of_le h.2 hk.size⟩) s (EncN.keep hk (fun k h e => by have e' : k = B := e; have := h.1; omega) s h1), row_put hB' i v, h2.keepK hk (fun k e => by have e' : k = B := e; omega), ?_⟩
  exact (h3.mono (fun k _ e => .inl e)).trans (hk.mono (fun k _ e => .inr e))

theorem rd_len : ∀ (s : Sh) (st : Rst), (rdF s st).2.1.length ≤ st.1.length
  | .num, st => by simp only [rdF, List.length_drop]; omega
  | .int, st => by simp only [rdF, List.length_drop]; omega
  | .bool, st => by simp only [rdF, List.length_drop]; omega
  | .data, st => by simp only [rdF, List.length_drop]; omega
  | .name, st => by simp only [rdF, List.length_drop]; omega
  | .list s, st => by
    have h : ∀ n (st : Rst), (rdLF (rdF s) n st).2.2.1.length ≤ st.1.length := fun n => by
      induction n with
      | zero => intro st; exact Nat.le_refl _
      | succ n ih =>
        intro st
        have h1 := rd_len s st
        simp only [rdLF]
        split
        · exact h1
        · exact Nat.le_trans (ih _) h1
    have := h (lookS 5000 st.1 st.2).1 (st.1.drop (lookS 5000 st.1 st.2).2.1, (lookS 5000 st.1 st.2).2.2)
    simp only [rdF]
    refine Nat.le_trans this ?_
    simp
  | .nil, st => Nat.le_refl _
  | .cons s r, st => Nat.le_trans (rd_len r _) (rd_len s _)

/-- 'append(v, x)' of one row at a step of a region that draws. -/
theorem step_app1 {w : World} {ops : Array Oper} {o : Oper} {a : Act} {K : Act → World → Prop} {Q : Exit → Act → World → Prop} {E : Prop} (hgd : o.guard = none) (s x : Operand) (t : TypeId)
    (ho : o.op = .call { callee := .builtin .append, args := #[s, x], argTypes := #[t, t] })
    (base : Nat) (e : TypeId) (ht : Try.prog.underlying t = some (.slice e)) {i : TypeInfo} (hi : Try.prog.info? e = some i) {z : Value} {size bytes : Nat} (hz : i.zero = some z) (hsize : i.size = size) (hby : i.bytes = bytes) (hzs : z.cells.size = size) (hsz : 0 < size)
    (v : Value) (n : Nat) (xs : List Value) (hs : a.eval s = v) (hown : w.ownsRow base e size v n xs)
    (g0 : Nat) (r : List Value) (hx : a.eval x = .slice (some ⟨g0, 0, none⟩) 1 1) (hr : w.heap[g0]? = some (.cells r.toArray e (0, 0))) (hrl : r.length = size) (h1 : ∀ u ∈ r, u.oneCell' = true) (h63 : n + 1 ≤ 100000) (hbytes : bytes ≤ 1000) (hbase : base ≤ w.heap.size)
    (h : ∀ g cap w', w'.ownsRow base e size (.slice (some ⟨g, 0, none⟩) (n + 1) cap) (n + 1) (xs ++ r) → w.grownBy w' v.ownBlock → (v.ownBlock = some g ∨ g = w.heap.size) → K (a.put o.dst (.slice (some ⟨g, 0, none⟩) (n + 1) cap)) w') :
    if Region.wanted o (yielded ops a.tmps) = true then Oper.wp Try.prog o a w K Q else E := by
  have hb : (n + 1) * bytes ≤ 140737488355328 := by
    have := Nat.mul_le_mul h63 hbytes
    omega
  exact step_append_lies w hgd s x t ho base e i z size bytes ht hi hz hsize hby hzs hsz v n xs hs hown ⟨g0, 0, none⟩ 1 1 r hx (by omega) (fun j u hu => by
      rw [WideShapes.add_plain, Nat.zero_add]
      exact (row_at hr hu).1) h1 (by decide) (by unfold maxLen; omega) hb hbase _ rfl (fun g cap w' a1 a2 a3 _ => h g cap w' a1 a2 a3)

/-- How a list's rest goes on behind what was read of it. -/
theorem rdLF_zero (f : Rst → List UInt8 × Rst) (st : Rst) : rdLF f 0 st = (0, [], st) := rfl
theorem rdLF_more (f : Rst → List UInt8 × Rst) (n : Nat) (st : Rst) (h : (f st).2.2 = 0) : rdLF f (n + 1) st = ((rdLF f n (f st).2).1 + 1, (f st).1 ++ (rdLF f n (f st).2).2.1, (rdLF f n (f st).2).2.2) := by
  rw [rdLF, if_neg (by simpa using h)]
theorem rdLF_stop (f : Rst → List UInt8 × Rst) (n : Nat) (st : Rst) (h : (f st).2.2 ≠ 0) : rdLF f (n + 1) st = (1, (f st).1, (f st).2) := by
  rw [rdLF, if_pos h]

/-- The rounds of a list's reading: what stands ahead of round k (of n): the rows M, in the field's cell; st: where the list began, sk: where it is. -/
structure TLp (s : Sh) (e : TypeId) (R B i : Nat) (w : World) (cs : List Value) (t : TypeId) (n : Nat) (st : Rst) (wr : World) (k : Nat) (M : List (List Value × List UInt8)) (ao : Option Addr) (c : Nat) (sk : Rst) : Prop where
  le : k ≤ n
  len : M.length = k
  field : wr.heap[B]? = some (.cells (cs.set i (.slice ao k c)).toArray t (0, 0))
  own : wr.ownsRow (w.heap.size + 1) e s.wid (.slice ao k c) k (M.map (·.1)).flatten
  red : ∀ m ∈ M, EncN (fun j => w.heap.size ≤ j ∧ j < wr.heap.size ∧ (Value.slice ao k c).ownBlock ≠ some j) wr s m.1 m.2
  rat : RAt wr R sk.1 sk.2
  small : sk.1.length ≤ st.1.length
  rest : rdLF (rdF s) n st = ((rdLF (rdF s) (n - k) sk).1 + k, (M.map (·.2)).flatten ++ (rdLF (rdF s) (n - k) sk).2.1, (rdLF (rdF s) (n - k) sk).2.2)
  keep : Keep (fun j => j = R ∨ j = B) w wr

theorem TLp.begin {s : Sh} {e : TypeId} {R B i : Nat} {w wr : World} {cs : List Value} {t : TypeId} {n : Nat} {st : Rst} (hi : cs[i]? = some (.slice none 0 0)) (hf : wr.heap[B]? = some (.cells cs.toArray t (0, 0))) (hr : RAt wr R st.1 st.2) (hk : Keep (fun j => j = R ∨ j = B) w wr) :
    TLp s e R B i w cs t n st wr 0 [] none 0 st := by
  have hs : cs.set i (.slice none 0 0) = cs := by
    obtain ⟨h1, h2⟩ := List.getElem?_eq_some_iff.1 hi
    rw [← h2]
    exact List.set_getElem_self h1
  exact ⟨Nat.zero_le _, rfl, by rw [hs]; exact hf, World.ownsRow_nil _ _ _ _, (fun m hm => by cases hm), hr, Nat.le_refl _, by simp, hk⟩

theorem mk_list {s : Sh} {e : TypeId} {base base0 : Nat} (hb0 : base0 ≤ base) {wr : World} {M : List (List Value × List UInt8)} {ao : Option Addr} {c k : Nat} {P : Nat → Prop} (hl : M.length = k) (hk : k ≤ 5000) (own : wr.ownsRow base e s.wid (.slice ao k c) k (M.map (·.1)).flatten)
    (red : ∀ m ∈ M, EncN P wr s m.1 m.2) (hP : ∀ j, P j → base0 ≤ j ∧ j < wr.heap.size) : EncN (fun j => base0 ≤ j ∧ j < wr.heap.size) wr (.list s) [.slice ao k c] (numL k ++ (M.map (·.2)).flatten) := by
  subst hl
  have hw : Wide s.wid (M.map (·.1)) := fun r hr => by
    obtain ⟨m, hm, rfl⟩ := List.mem_map.1 hr
    exact (EncN.enc s (red m hm)).wide
  have hr := Rws.own (L := M.map (·.1)) (by rw [List.length_map]; exact own) hw
  exact ⟨ao, c, M, rfl, hr, fun m hm => EncN.mono hP s (red m hm), by omega, rfl, fun j hj => by have := own.lt j (by rw [ownBlock_blk]; exact hj); omega⟩

theorem TLp.done {s : Sh} {e : TypeId} {R B i : Nat} {w wr : World} {cs : List Value} {t : TypeId} {n : Nat} {st : Rst} {M : List (List Value × List UInt8)} {ao : Option Addr} {c : Nat} {sk : Rst} (h : TLp s e R B i w cs t n st wr n M ao c sk) (hn : n ≤ 5000) :
    EncN (fun k => w.heap.size ≤ k ∧ k < wr.heap.size) wr (.list s) [.slice ao n c] (numL (rdLF (rdF s) n st).1 ++ (rdLF (rdF s) n st).2.1) ∧ RAt wr R (rdLF (rdF s) n st).2.2.1 (rdLF (rdF s) n st).2.2.2 := by
  have e1 := h.rest
  rw [Nat.sub_self, rdLF_zero] at e1
  rw [e1]
  simp only [Nat.zero_add, List.append_nil]
  exact ⟨mk_list (Nat.le_succ _) h.len hn h.own h.red (fun j hj => ⟨hj.1, hj.2.1⟩), h.rat⟩

/-- One thing more: read, appended, stored. -/
theorem TLp.next {s : Sh} {e : TypeId} {R B i : Nat} {w wr : World} {cs : List Value} {t : TypeId} {n : Nat} {st : Rst} {k : Nat} {M : List (List Value × List UInt8)} {ao : Option Addr} {c : Nat} {sk : Rst} (h : TLp s e R B i w cs t n st wr k M ao c sk)
    (hRw : R < w.heap.size) (hBw : B < w.heap.size) (hRB : R < B) (hkn : k < n) {mc : List Value} {w2 w3 w4 : World} (hrd : RdP s R wr sk mc w2) {g cap : Nat}
    (h3 : Below w2.heap.size w2 w3) (o4 : w4.ownsRow (w.heap.size + 1) e s.wid (.slice (some ⟨g, 0, none⟩) (k + 1) cap) (k + 1) ((M.map (·.1)).flatten ++ mc)) (g4 : w3.grownBy w4 (Value.slice ao k c).ownBlock) (gg : (Value.slice ao k c).ownBlock = some g ∨ g = w3.heap.size) :
    RAt (w4.setCell ⟨B, i, none⟩ (.slice (some ⟨g, 0, none⟩) (k + 1) cap)) R (rdF s sk).2.1 (rdF s sk).2.2 ∧
    ((rdF s sk).2.2 = 0 → TLp s e R B i w cs t n st (w4.setCell ⟨B, i, none⟩ (.slice (some ⟨g, 0, none⟩) (k + 1) cap)) (k + 1) (M ++ [(mc, (rdF s sk).1)]) (some ⟨g, 0, none⟩) cap (rdF s sk).2) ∧
    ((rdF s sk).2.2 ≠ 0 → n ≤ 5000 → EncN (fun j => w.heap.size ≤ j ∧ j < (w4.setCell ⟨B, i, none⟩ (.slice (some ⟨g, 0, none⟩) (k + 1) cap)).heap.size) (w4.setCell ⟨B, i, none⟩ (.slice (some ⟨g, 0, none⟩) (k + 1) cap)) (.list s) [.slice (some ⟨g, 0, none⟩) (k + 1) cap] (numL (rdLF (rdF s) n st).1 ++ (rdLF (rdF s) n st).2.1) ∧
      (w4.setCell ⟨B, i, none⟩ (.slice (some ⟨g, 0, none⟩) (k + 1) cap)).heap[B]? = some (.cells (cs.set i (.slice (some ⟨g, 0, none⟩) (k + 1) cap)).toArray t (0, 0)) ∧ RAt (w4.setCell ⟨B, i, none⟩ (.slice (some ⟨g, 0, none⟩) (k + 1) cap)) R (rdLF (rdF s) n st).2.2.1 (rdLF (rdF s) n st).2.2.2 ∧ Keep (fun j => j = R ∨ j = B) w (w4.setCell ⟨B, i, none⟩ (.slice (some ⟨g, 0, none⟩) (k + 1) cap))) := by
  obtain ⟨e1, r1, k1⟩ := hrd
  have hown : ∀ j, (Value.slice ao k c).ownBlock = some j → w.heap.size + 1 ≤ j ∧ j < wr.heap.size := fun j hj => h.own.lt j hj
  have K3 : Keep (fun _ => False) w2 w3 := Keep.of_below h3
  have K4 : Keep (fun j => (Value.slice ao k c).ownBlock = some j) w3 w4 := Keep.of_grown g4 (fun j hj => hj)
  have K5 : Keep (fun j => j = B) w4 (w4.setCell ⟨B, i, none⟩ (.slice (some ⟨g, 0, none⟩) (k + 1) cap)) := Keep.set w4 ⟨B, i, none⟩ _ rfl
  have s0 := h.keep.size
  have s1 := k1.size
  have s3 := K3.size
  have s4 := K4.size
  have s5 := K5.size
  have hg : w.heap.size + 1 ≤ g := (o4.lt g rfl).1
  have hf3 : w3.heap[B]? = some (.cells (cs.set i (.slice ao k c)).toArray t (0, 0)) := (K3.block B (by omega) (fun e => e)).trans ((k1.block B (by omega) (fun e => by have e' : B = R := e; omega)).trans h.field)
  have hf4 := (K4.block B (by omega) (fun e => by have := (hown B e).1; omega)).trans hf3
  have hf5 := row_put hf4 i (.slice (some ⟨g, 0, none⟩) (k + 1) cap)
  rw [List.set_set] at hf5
  have r5 : RAt (w4.setCell ⟨B, i, none⟩ (.slice (some ⟨g, 0, none⟩) (k + 1) cap)) R (rdF s sk).2.1 (rdF s sk).2.2 :=
    ((r1.keepK K3 (fun j e => e.elim)).keepK K4 (fun j e => by have := (hown j e).1; omega)).keepK K5 (fun j e => by have e' : j = B := e; omega)
  have o5 := o4.kept (grown_set w4 ⟨B, i, none⟩ (.slice (some ⟨g, 0, none⟩) (k + 1) cap)) (.inr (by simp [Value.ownBlock]; omega))
  have kk : Keep (fun j => j = R ∨ j = B) w (w4.setCell ⟨B, i, none⟩ (.slice (some ⟨g, 0, none⟩) (k + 1) cap)) :=
    (((h.keep.trans (k1.mono (fun j _ e => .inl e))).trans (K3.mono (fun j _ e => e.elim))).trans2 K4 (fun j e => .inr (Nat.le_of_succ_le (hown j e).1))).trans (K5.mono (fun j _ e => .inr e))
  have red : ∀ m ∈ M ++ [(mc, (rdF s sk).1)], EncN (fun j => w.heap.size ≤ j ∧ j < (w4.setCell ⟨B, i, none⟩ (.slice (some ⟨g, 0, none⟩) (k + 1) cap)).heap.size ∧ (Value.slice (some ⟨g, 0, none⟩) (k + 1) cap).ownBlock ≠ some j) (w4.setCell ⟨B, i, none⟩ (.slice (some ⟨g, 0, none⟩) (k + 1) cap)) s m.1 m.2 := fun m hm => by
    rcases List.mem_append.1 hm with hm | hm
    · have q0 := h.red m hm
      have q1 := EncN.keep k1 (fun j hj e => by have e' : j = R := e; have := hj.1; omega) s q0
      have q2 := EncN.keep K3 (fun j hj e => e) s q1
      have q3 := EncN.keep K4 (fun j hj e => hj.2.2 e) s q2
      have q4 := EncN.keep K5 (fun j hj e => by have e' : j = B := e; have := hj.1; omega) s q3
      refine EncN.mono (fun j hj => ⟨hj.1, by omega, fun e => ?_⟩) s q4
      have e' : g = j := by simpa [Value.ownBlock] using e
      subst e'
      rcases gg with e | e
      · exact hj.2.2 e
      · omega
    · obtain rfl := List.mem_singleton.1 hm
      have q2 := EncN.keep K3 (fun j hj e => e) s e1
      have q3 := EncN.keep K4 (fun j hj e => by have := (hown j e).2; have := hj.1; omega) s q2
      have q4 := EncN.keep K5 (fun j hj e => by have e' : j = B := e; have := hj.1; omega) s q3
      refine EncN.mono (fun j hj => ⟨by omega, by omega, fun e => ?_⟩) s q4
      have e' : g = j := by simpa [Value.ownBlock] using e
      subst e'
      rcases gg with e | e
      · have := (hown g e).2; omega
      · omega
  have hfl : ((M ++ [(mc, (rdF s sk).1)]).map (·.1)).flatten = (M.map (·.1)).flatten ++ mc := by simp
  have hfb : ((M ++ [(mc, (rdF s sk).1)]).map (·.2)).flatten = (M.map (·.2)).flatten ++ (rdF s sk).1 := by simp
  have hnk : n - k = (n - (k + 1)) + 1 := by omega
  refine ⟨r5, fun h0 => ⟨by omega, by rw [List.length_append, h.len]; rfl, hf5, by rw [hfl]; exact o5, red, r5, Nat.le_trans (rd_len s sk) h.small, ?_, kk⟩, fun h0 hn => ⟨?_, hf5, ?_, kk⟩⟩
  · rw [h.rest, hnk, rdLF_more _ _ _ h0, hfb]
    simp only [Prod.mk.injEq, List.append_assoc, and_true]
    omega
  · have := mk_list (Nat.le_succ _) (M := M ++ [(mc, (rdF s sk).1)]) (k := k + 1) (by rw [List.length_append, h.len]; rfl) (by omega) (by rw [hfl]; exact o5) red (fun j hj => ⟨hj.1, hj.2.1⟩)
    rw [h.rest, hnk, rdLF_stop _ _ _ h0]
    rw [hfb] at this
    rw [show 1 + k = k + 1 from by omega]
    exact this
  · rw [h.rest, hnk, rdLF_stop _ _ _ h0]
    exact r5
set_option maxHeartbeats 2000000 in
theorem rtake_whole {w : World} {R B : Nat} {st : Rst} {cs : List Value} {t : TypeId} (i : Nat) {u : Value} (h : RAt w R st.1 st.2) (hl : st.1.length ≤ 140737488355328) (hB : w.heap[B]? = some (.cells cs.toArray t (0, 0))) (hi : cs[i]? = some u) (hRB : R < B) :
    Calls Try.prog 78 #[.pointer (some ⟨B, i, none⟩), (.func (.func 79) #[.agg #[.pointer (some ⟨R, 0, none⟩)]] #[])] w (fun en w' => en = .returned (.tuple #[]) ∧ ∃ v, TkP .int R B w st cs t i v w') := by
  have C := hid (rwhole_any h)
  have HB := hid hB
  have HI := hid hi
  clear hB hi h
  go_enter Try.func78, Try.ntmps78
  go_wp2_with (first | (go_at_call 79; refine C.out.mono ?_; rintro en w2 ⟨v, rfl, hv⟩; obtain ⟨y0, rfl⟩ := form_int (EncN.enc _ hv.1); have HV := hid hv; obtain ⟨z0, z1⟩ := row_at ((hv.2.2.block B (lt_of_block HB.out) (fun e => by have e9 : B = R := e; omega)).trans HB.out) HI.out; clear hv))
  go_end0
  exact ⟨rfl, _, HV.out.store HB.out hRB i⟩

set_option maxHeartbeats 2000000 in
theorem rtake_name {w : World} {R B : Nat} {st : Rst} {cs : List Value} {t : TypeId} (i : Nat) {u : Value} (h : RAt w R st.1 st.2) (hl : st.1.length ≤ 140737488355328) (hB : w.heap[B]? = some (.cells cs.toArray t (0, 0))) (hi : cs[i]? = some u) (hRB : R < B) :
    Calls Try.prog 104 #[.pointer (some ⟨B, i, none⟩), (.func (.func 105) #[.agg #[.pointer (some ⟨R, 0, none⟩)]] #[])] w (fun en w' => en = .returned (.tuple #[]) ∧ ∃ v, TkP .name R B w st cs t i v w') := by
  have C := hid (rname_any h hl)
  have HB := hid hB
  have HI := hid hi
  clear hB hi h
  go_enter Try.func104, Try.ntmps104
  go_wp2_with (first | (go_at_call 105; refine C.out.mono ?_; rintro en w2 ⟨v, rfl, hv⟩; obtain ⟨y0, rfl⟩ := form_name (EncN.enc _ hv.1); have HV := hid hv; obtain ⟨z0, z1⟩ := row_at ((hv.2.2.block B (lt_of_block HB.out) (fun e => by have e9 : B = R := e; omega)).trans HB.out) HI.out; clear hv))
  go_end0
  exact ⟨rfl, _, HV.out.store HB.out hRB i⟩

set_option maxHeartbeats 2000000 in
theorem rtake_flag {w : World} {R B : Nat} {st : Rst} {cs : List Value} {t : TypeId} (i : Nat) {u : Value} (h : RAt w R st.1 st.2) (hl : st.1.length ≤ 140737488355328) (hB : w.heap[B]? = some (.cells cs.toArray t (0, 0))) (hi : cs[i]? = some u) (hRB : R < B) :
    Calls Try.prog 109 #[.pointer (some ⟨B, i, none⟩), (.func (.func 110) #[.agg #[.pointer (some ⟨R, 0, none⟩)]] #[])] w (fun en w' => en = .returned (.tuple #[]) ∧ ∃ v, TkP .bool R B w st cs t i v w') := by
  have C := hid (rflag_any h)
  have HB := hid hB
  have HI := hid hi
  clear hB hi h
  go_enter Try.func109, Try.ntmps109
  go_wp2_with (first | (go_at_call 110; refine C.out.mono ?_; rintro en w2 ⟨v, rfl, hv⟩; obtain ⟨y0, rfl⟩ := form_bool (EncN.enc _ hv.1); have HV := hid hv; obtain ⟨z0, z1⟩ := row_at ((hv.2.2.block B (lt_of_block HB.out) (fun e => by have e9 : B = R := e; omega)).trans HB.out) HI.out; clear hv))
  go_end0
  exact ⟨rfl, _, HV.out.store HB.out hRB i⟩

set_option maxHeartbeats 8000000 in
theorem rlist_int {w : World} {R B : Nat} {st : Rst} {cs : List Value} {t : TypeId} (i : Nat) (h : RAt w R st.1 st.2) (hl : st.1.length ≤ 140737488355328) (hB : w.heap[B]? = some (.cells cs.toArray t (0, 0))) (hi : cs[i]? = some (.slice none 0 0)) (hRB : R < B) :
    Calls Try.prog 108 #[.agg #[.pointer (some ⟨R, 0, none⟩)], .pointer (some ⟨B, i, none⟩), (.func (.func 79) #[.agg #[.pointer (some ⟨R, 0, none⟩)]] #[])] w (fun en w' => en = .returned (.tuple #[]) ∧ ∃ v, TkP (.list .int) R B w st cs t i v w') := by
  obtain ⟨i0, hi0, hz0, hz1, hz2⟩ : ∃ i0, Try.prog.info? 3 = some i0 ∧ i0.zero = some (.int .i64 0) ∧ i0.size = 1 ∧ i0.bytes = 8 := by
    have h9 : (Try.prog.info? 3).map (fun i => (i.zero, i.size, i.bytes)) = some (some (.int .i64 0), 1, 8) := by kernel_rfl
    cases hq : Try.prog.info? 3 with
    | none => rw [hq] at h9; cases h9
    | some q => rw [hq] at h9; simp at h9; exact ⟨q, rfl, h9⟩
  have HI0 := hid (And.intro hi0 (And.intro hz0 (And.intro hz1 hz2)))
  clear hi0 hz0 hz1 hz2
  have hb : Below w.heap.size w (w.alloc (.cells #[.pointer (some ⟨R, 0, none⟩)] 105)) := (Below.refl _ _).alloc (Nat.le_refl _) _
  have hz := heap_alloc_new w (.cells #[.pointer (some ⟨R, 0, none⟩)] 105)
  have hRw := h.lt
  have hBw := lt_of_block hB
  have HRW := hid hRw
  have HBW := hid hBw
  have H := hid (h.old hb)
  have HB := hid hb
  have HF := hid ((hb.block _ hBw).trans hB)
  have HI := hid hi
  have HZ := hid hz
  have HLE := hid hl
  clear h hB hi hb hz hl
  go_enter Try.func108, Try.ntmps108
  go_upto_region 1 with fail
  generalize w.alloc (.cells #[.pointer (some ⟨R, 0, none⟩)] 105) = w1 at *
  obtain ⟨z0, z1⟩ := one_cell HZ.out
  obtain ⟨n, hn⟩ : ∃ n, n = (lookS 5000 st.1 st.2).1 := ⟨_, rfl⟩
  obtain ⟨s1, hs1⟩ : ∃ s1 : Rst, s1 = (st.1.drop (lookS 5000 st.1 st.2).2.1, (lookS 5000 st.1 st.2).2.2) := ⟨_, rfl⟩
  have HN := hid (And.intro hn hs1)
  have hn5 : n ≤ 5000 := by rw [hn]; exact lookS_most _ _ _
  have C0 : Hid (Calls Try.prog 103 #[.pointer (some ⟨R, 0, none⟩), .int .i64 5000] w1 (fun en w' => en = .returned (.int .i64 (n : Int)) ∧ RAt w' R s1.1 s1.2 ∧ w1.grownBy w' (some R))) := hid ((smallR_any w1 R st.1 st.2 5000 (by decide) H.out).mono (fun en w9 h9 => by rw [hn, hs1]; exact h9))
  have HS1 : Hid (s1.1.length ≤ st.1.length) := hid (by rw [hs1]; simp)
  clear hn hs1
  go_wp2_with (first | (go_at_call 103; refine C0.out.mono ?_; rintro en w2 ⟨rfl, h2, g2⟩; have H2 := hid h2; have K2 := hid (show Keep (fun j => j = R ∨ j = B) w w2 from (Keep.of_below HB.out).trans ((Keep.of_grown (X := fun j => j = R) g2 (fun j e => by cases e; rfl)).mono (fun j _ e => .inl e))); have HF2 := hid ((g2.block B (lt_of_block HF.out) (fun e => by cases e; omega)).trans HF.out); have HZ2 := hid ((g2.block w.heap.size (lt_of_block HZ.out) (fun e => by cases e; omega)).trans HZ.out); clear h2 g2))
  clear z0 z1 C0
  go_loopw [9] (fun ix wr => ∃ (k : Nat) (M : List (List Value × List UInt8)) (ao : Option Addr) (c : Nat) (sk : Rst), ix = .int .i64 (k : Int) ∧ wr.heap[w.heap.size]? = some (.cells #[.pointer (some ⟨R, 0, none⟩)] 105 (0, 0)) ∧ TLp .int 3 R B i w cs t n s1 wr k M ao c sk) (fun ix _ => n - (intOf ix).toNat)
  case atStart => exact ⟨0, [], none, 0, s1, rfl, HZ2.out, TLp.begin HI.out HF2.out H2.out K2.out⟩
  case round =>
    obtain ⟨k, M, ao, c, sk, rfl, hzr, ht⟩ := hrel
    have hk := ht.le
    have HT := hid ht
    have HZR := hid hzr
    clear ht hzr
    by_cases hlt : k < n
    · have hki : (k : Int) < (n : Int) := by omega
      go_upto_region 3 with fail
      have hWd : Below wr.heap.size wr wr.drew := ⟨rfl, rfl, rfl, Nat.le_refl _, fun _ _ => rfl⟩
      have HLk : Hid (sk.1.length ≤ 140737488355328) := hid (by have := HT.out.small; have := HS1.out; have := HLE.out; omega)
      have HTd : Hid (RAt wr.drew R sk.1 sk.2) := hid (HT.out.rat.old hWd)
      have HFd : Hid (wr.drew.heap[B]? = some (.cells (cs.set i (.slice ao k c)).toArray t (0, 0))) := HT.out.field
      have hli : (cs.set i (.slice ao k c))[i]? = some (.slice ao k c) := List.getElem?_set_self (List.getElem?_eq_some_iff.1 HI.out).1
      have HLI := hid hli
      clear hli
      have CN := hid (rwhole_any HTd.out)
      have HUD : Hid (∀ mc w9, RdP .int R wr.drew sk mc w9 → RdP .int R wr sk mc w9) := hid fun _ _ h => h.undrew
      have HZd : Hid (wr.drew.heap[w.heap.size]? = some (.cells #[.pointer (some ⟨R, 0, none⟩)] 105 (0, 0))) := HZR.out
      refine wp_region_noPanic ?_
      refine wp_region_held_drew (S := fun _ => Hid True) (by kernel_rfl) (hid trivial) (fun hHeld => ?_)
      clear hWd
      obtain ⟨d0, d1⟩ := row_at HFd.out HLI.out
      generalize wr.drew = Wd at *
      have HD0 := hid d0
      clear d0 d1
      refine wpAnyH_take (i := 0) (v := (.pointer (some ⟨B, i, none⟩))) rfl (by kernel_rfl) (by kernel_rfl) (by kernel_rfl) (fun _ _ _ h => (show False from h).elim) ?xyRLint1 ?xhRLint1 ?xrRLint1
      case xhRLint1 => exact hHeld
      case xyRLint1 => exact Or.inl ⟨by rfl, fun W9 hW => by clear hHeld; simp only [List.getElem_toArray, List.getElem_cons_succ, List.getElem_cons_zero]; go_simp⟩
      simp only [Act.put, List.getElem_toArray, List.getElem_cons_succ, List.getElem_cons_zero, List.setIfInBounds_toArray, List.set_cons_succ, List.set_cons_zero]
      refine wpAnyH_take (i := 1) (v := (.pointer (some ⟨B, i, none⟩))) rfl (by kernel_rfl) (by kernel_rfl) (by kernel_rfl) (fun _ _ _ h => (show False from h).elim) ?xyRLint2 ?xhRLint2 ?xrRLint2
      case xhRLint2 => exact hHeld
      case xyRLint2 => exact Or.inl ⟨by rfl, fun W9 hW => by clear hHeld; simp only [List.getElem_toArray, List.getElem_cons_succ, List.getElem_cons_zero]; go_simp⟩
      simp only [Act.put, List.getElem_toArray, List.getElem_cons_succ, List.getElem_cons_zero, List.setIfInBounds_toArray, List.set_cons_succ, List.set_cons_zero]
      refine wpAnyH_take (i := 2) (v := (.pointer (some ⟨B, i, none⟩))) rfl (by kernel_rfl) (by kernel_rfl) (by kernel_rfl) (fun _ _ _ h => (show False from h).elim) ?xyRLint3 ?xhRLint3 ?xrRLint3
      case xhRLint3 => exact hHeld
      case xyRLint3 => exact Or.inl ⟨by rfl, fun W9 hW => by clear hHeld; simp only [List.getElem_toArray, List.getElem_cons_succ, List.getElem_cons_zero]; go_simp⟩
      simp only [Act.put, List.getElem_toArray, List.getElem_cons_succ, List.getElem_cons_zero, List.setIfInBounds_toArray, List.set_cons_succ, List.set_cons_zero]
      refine wpAnyH_take (i := 4) (v := (.func (.func 79) #[.agg #[.pointer (some ⟨R, 0, none⟩)]] #[])) rfl (by kernel_rfl) (by kernel_rfl) (by kernel_rfl) (fun _ _ _ h => (show False from h).elim) ?xyRLint4 ?xhRLint4 ?xrRLint4
      case xhRLint4 => exact hHeld
      case xyRLint4 => exact Or.inl ⟨by rfl, fun W9 hW => by clear hHeld; simp only [List.getElem_toArray, List.getElem_cons_succ, List.getElem_cons_zero]; go_simp⟩
      simp only [Act.put, List.getElem_toArray, List.getElem_cons_succ, List.getElem_cons_zero, List.setIfInBounds_toArray, List.set_cons_succ, List.set_cons_zero]
      refine wpAnyH_ready (rs := [3, 5]) (by kernel_rfl) (by simp) ?_
      refine AllReadyH.cons rfl (fun K hK => ?_) (AllReadyH.cons rfl (fun K hK => ?_) AllReadyH.nil)
      · have d0 := HD0.out
        go_simp
        refine hK.out _ _ (hid trivial) (fun hHeld => ?_)
        clear hK K d0
        refine wpAnyH_ready (rs := [5]) (by kernel_rfl) (by simp) ?_
        refine AllReadyH.cons rfl (fun K hK => ?_) AllReadyH.nil
        go_simp
        go_wp2_with (first | (go_at_call 79; refine CN.out.mono ?_; rintro en wT ⟨v, rfl, hv⟩; obtain ⟨y0, rfl⟩ := form_int (EncN.enc _ hv.1); have HV := hid (HUD.out _ _ hv); have HZT := hid ((hv.2.2.block w.heap.size (lt_of_block HZd.out) (fun e => by have e9 : w.heap.size = R := e; omega)).trans HZd.out); have HFT := hid ((hv.2.2.block B (lt_of_block HFd.out) (fun e => by have e9 : B = R := e; omega)).trans HFd.out); have hdT := (World.cell?_of_block (w := Wd) (w' := wT) (a := ⟨B, i, none⟩) (hv.2.2.block B (lt_of_block HFd.out) (fun e => by have e9 : B = R := e; omega))).trans HD0.out; have HDT := hid hdT; clear hv hdT))
        refine hK.out _ _ (hid trivial) (fun hHeld => ?_)
        clear hK K
        have H3 : Hid (Below wT.heap.size wT (wT.alloc (.cells #[.int .i64 y0] 3))) := hid ((Below.refl _ _).alloc (Nat.le_refl _) _)
        have HR3 := hid (heap_alloc_new wT (.cells #[.int .i64 y0] 3))
        have HOW : Hid ((wT.alloc (.cells #[.int .i64 y0] 3)).ownsRow (w.heap.size + 1) 3 1 (.slice ao k c) k (M.map (·.1)).flatten) := hid (own_old (own_keep (X := fun j => j = R) HT.out.own (show Keep _ wr wT from HV.out.2.2) (fun j e e9 => by have e8 : j = R := e9; have := (HT.out.own.lt j e).1; omega)) H3.out)
        have HSZ : Hid (w.heap.size + 1 ≤ (wT.alloc (.cells #[.int .i64 y0] 3)).heap.size) := hid (by have := lt_of_block HZT.out; have := H3.out.size; show _ ≤ _; omega)
        refine wpAnyH_ready (rs := [6]) (by kernel_rfl) (by simp) ?_
        refine AllReadyH.cons rfl (fun K hK => ?_) AllReadyH.nil
        go_simp
        refine hK.out _ _ (hid trivial) (fun hHeld => ?_)
        clear hK K
        refine wpAnyH_ready (rs := [7]) (by kernel_rfl) (by simp) ?_
        refine AllReadyH.cons rfl (fun K hK => ?_) AllReadyH.nil
        refine step_app1 (by rfl) (.tmp 14) (.tmp 17) 32 (by rfl) (w.heap.size + 1) 3 Try.underlying32 HI0.out.1 HI0.out.2.1 HI0.out.2.2.1 HI0.out.2.2.2 (by simp [Value.cells]) (by decide) _ k _ (by rfl) HOW.out wT.heap.size [.int .i64 y0] (by rfl) HR3.out rfl (fun u hu => by simp only [List.mem_cons, List.not_mem_nil, or_false] at hu; subst hu; rfl) (by omega) (by decide) HSZ.out (fun g cap w' o5 g5 gg5 => ?_)
        have HF4 : Hid (w'.heap[B]? = some (.cells (cs.set i (.slice ao k c)).toArray t (0, 0))) := hid (heap_kept g5 ((H3.out.block B (lt_of_block HFT.out)).trans HFT.out) (fun e => by have := (HT.out.own.lt B e.symm).1; omega))
        have HZ5 : Hid ((w'.setCell ⟨B, i, none⟩ (.slice (some ⟨g, 0, none⟩) (k + 1) cap)).heap[w.heap.size]? = some (.cells #[.pointer (some ⟨R, 0, none⟩)] 105 (0, 0))) := hid (heap_kept (grown_set w' ⟨B, i, none⟩ _) (heap_kept g5 ((H3.out.block _ (lt_of_block HZT.out)).trans HZT.out) (fun e => by have := (HT.out.own.lt _ e.symm).1; omega)) (fun e => by have e9 : w.heap.size = B := (by simpa using e); exact Nat.lt_irrefl _ (Nat.lt_of_lt_of_le HBW.out (Nat.le_of_eq e9))))
        have HNX := hid (HT.out.next HRW.out HBW.out hRB hlt (show RdP .int R wr sk [.int .i64 y0] wT from HV.out) H3.out o5 g5 gg5)
        clear o5 g5 gg5
        refine hK.out _ _ (hid trivial) (fun hHeld => ?_)
        clear hK K
        simp only [Act.put, List.getElem_toArray, List.getElem_cons_succ, List.getElem_cons_zero, List.setIfInBounds_toArray, List.set_cons_succ, List.set_cons_zero]
        refine wpAnyH_take (i := 8) (v := (.pointer (some ⟨B, i, none⟩))) rfl (by kernel_rfl) (by kernel_rfl) (by kernel_rfl) (fun _ _ _ h => (show False from h).elim) ?xyRLint5 ?xhRLint5 ?xrRLint5
        case xhRLint5 => exact hHeld
        case xyRLint5 => exact Or.inl ⟨by rfl, fun W9 hW => by clear hHeld; simp only [List.getElem_toArray, List.getElem_cons_succ, List.getElem_cons_zero]; go_simp⟩
        simp only [Act.put, List.getElem_toArray, List.getElem_cons_succ, List.getElem_cons_zero, List.setIfInBounds_toArray, List.set_cons_succ, List.set_cons_zero]
        obtain ⟨q0, q1⟩ := row_at HF4.out HLI.out
        refine wpAnyH_ready (rs := [9]) (by kernel_rfl) (by simp) ?_
        refine AllReadyH.cons rfl (fun K hK => ?_) AllReadyH.nil
        go_simp
        refine hK.out _ _ (hid trivial) (fun hHeld => ?_)
        clear hK K
        refine wpAnyH_done (by kernel_rfl) ?_ _
        refine NoPanic.normal ?_
        clear q0 q1
        generalize w'.setCell ⟨B, i, none⟩ (.slice (some ⟨g, 0, none⟩) (k + 1) cap) = w5 at *
        obtain ⟨p0, p1⟩ := one_cell HZ5.out
        have CE := hid (err_any w5 R _ _ HNX.out.1)
        obtain ⟨ev, hev⟩ : ∃ ev, ev = (rdF .int sk).2.2 := ⟨_, rfl⟩
        rw [← hev] at CE
        by_cases h0 : ev = 0
        · have HNE := hid (HNX.out.2.1 (by rw [← hev]; exact h0))
          subst h0
          clear hev
          go_wp2_with (first | (go_at_call 100; refine CE.out.mono ?_; rintro en w6 ⟨rfl, rfl⟩))
          go_roundw
          case rel => exact ⟨k + 1, _, _, _, _, by go_num, HZ5.out, HNE.out⟩
          case measure => simp [intOf]; omega
        · have HNE := hid (HNX.out.2.2 (by rw [← hev]; exact h0) hn5)
          have hbe : (ev != 0) = true := by simp [h0]
          clear hev
          go_wp2_with (first | (go_at_call 100; refine CE.out.mono ?_; rintro en w6 ⟨rfl, rfl⟩))
          (try simp only [Exit.inBlock, Exit.then]); refine bodyPost_ret (results_none rfl _ _ _) rfl ?_
          obtain ⟨m1, m2, m3, m4⟩ := HNE.out
          refine ⟨rfl, .slice (some ⟨g, 0, none⟩) (k + 1) cap, ?_, m2, ?_, m4⟩
          · simp only [rdF]; rw [← HN.out.1, ← HN.out.2]; exact m1
          · simp only [rdF]; rw [← HN.out.1, ← HN.out.2]; exact m3
      · go_simp
        go_wp2_with (first | (go_at_call 79; refine CN.out.mono ?_; rintro en wT ⟨v, rfl, hv⟩; obtain ⟨y0, rfl⟩ := form_int (EncN.enc _ hv.1); have HV := hid (HUD.out _ _ hv); have HZT := hid ((hv.2.2.block w.heap.size (lt_of_block HZd.out) (fun e => by have e9 : w.heap.size = R := e; omega)).trans HZd.out); have HFT := hid ((hv.2.2.block B (lt_of_block HFd.out) (fun e => by have e9 : B = R := e; omega)).trans HFd.out); have hdT := (World.cell?_of_block (w := Wd) (w' := wT) (a := ⟨B, i, none⟩) (hv.2.2.block B (lt_of_block HFd.out) (fun e => by have e9 : B = R := e; omega))).trans HD0.out; have HDT := hid hdT; clear hv hdT))
        refine hK.out _ _ (hid trivial) (fun hHeld => ?_)
        clear hK K
        have H3 : Hid (Below wT.heap.size wT (wT.alloc (.cells #[.int .i64 y0] 3))) := hid ((Below.refl _ _).alloc (Nat.le_refl _) _)
        have HR3 := hid (heap_alloc_new wT (.cells #[.int .i64 y0] 3))
        have HOW : Hid ((wT.alloc (.cells #[.int .i64 y0] 3)).ownsRow (w.heap.size + 1) 3 1 (.slice ao k c) k (M.map (·.1)).flatten) := hid (own_old (own_keep (X := fun j => j = R) HT.out.own (show Keep _ wr wT from HV.out.2.2) (fun j e e9 => by have e8 : j = R := e9; have := (HT.out.own.lt j e).1; omega)) H3.out)
        have HSZ : Hid (w.heap.size + 1 ≤ (wT.alloc (.cells #[.int .i64 y0] 3)).heap.size) := hid (by have := lt_of_block HZT.out; have := H3.out.size; show _ ≤ _; omega)
        refine wpAnyH_ready (rs := [3, 6]) (by kernel_rfl) (by simp) ?_
        refine AllReadyH.cons rfl (fun K hK => ?_) (AllReadyH.cons rfl (fun K hK => ?_) AllReadyH.nil)
        · have d1 := HDT.out
          go_simp
          refine hK.out _ _ (hid trivial) (fun hHeld => ?_)
          clear hK K d1
          refine wpAnyH_ready (rs := [6]) (by kernel_rfl) (by simp) ?_
          refine AllReadyH.cons rfl (fun K hK => ?_) AllReadyH.nil
          go_simp
          refine hK.out _ _ (hid trivial) (fun hHeld => ?_)
          clear hK K
          refine wpAnyH_ready (rs := [7]) (by kernel_rfl) (by simp) ?_
          refine AllReadyH.cons rfl (fun K hK => ?_) AllReadyH.nil
          refine step_app1 (by rfl) (.tmp 14) (.tmp 17) 32 (by rfl) (w.heap.size + 1) 3 Try.underlying32 HI0.out.1 HI0.out.2.1 HI0.out.2.2.1 HI0.out.2.2.2 (by simp [Value.cells]) (by decide) _ k _ (by rfl) HOW.out wT.heap.size [.int .i64 y0] (by rfl) HR3.out rfl (fun u hu => by simp only [List.mem_cons, List.not_mem_nil, or_false] at hu; subst hu; rfl) (by omega) (by decide) HSZ.out (fun g cap w' o5 g5 gg5 => ?_)
          have HF4 : Hid (w'.heap[B]? = some (.cells (cs.set i (.slice ao k c)).toArray t (0, 0))) := hid (heap_kept g5 ((H3.out.block B (lt_of_block HFT.out)).trans HFT.out) (fun e => by have := (HT.out.own.lt B e.symm).1; omega))
          have HZ5 : Hid ((w'.setCell ⟨B, i, none⟩ (.slice (some ⟨g, 0, none⟩) (k + 1) cap)).heap[w.heap.size]? = some (.cells #[.pointer (some ⟨R, 0, none⟩)] 105 (0, 0))) := hid (heap_kept (grown_set w' ⟨B, i, none⟩ _) (heap_kept g5 ((H3.out.block _ (lt_of_block HZT.out)).trans HZT.out) (fun e => by have := (HT.out.own.lt _ e.symm).1; omega)) (fun e => by have e9 : w.heap.size = B := (by simpa using e); exact Nat.lt_irrefl _ (Nat.lt_of_lt_of_le HBW.out (Nat.le_of_eq e9))))
          have HNX := hid (HT.out.next HRW.out HBW.out hRB hlt (show RdP .int R wr sk [.int .i64 y0] wT from HV.out) H3.out o5 g5 gg5)
          clear o5 g5 gg5
          refine hK.out _ _ (hid trivial) (fun hHeld => ?_)
          clear hK K
          simp only [Act.put, List.getElem_toArray, List.getElem_cons_succ, List.getElem_cons_zero, List.setIfInBounds_toArray, List.set_cons_succ, List.set_cons_zero]
          refine wpAnyH_take (i := 8) (v := (.pointer (some ⟨B, i, none⟩))) rfl (by kernel_rfl) (by kernel_rfl) (by kernel_rfl) (fun _ _ _ h => (show False from h).elim) ?xyRLint6 ?xhRLint6 ?xrRLint6
          case xhRLint6 => exact hHeld
          case xyRLint6 => exact Or.inl ⟨by rfl, fun W9 hW => by clear hHeld; simp only [List.getElem_toArray, List.getElem_cons_succ, List.getElem_cons_zero]; go_simp⟩
          simp only [Act.put, List.getElem_toArray, List.getElem_cons_succ, List.getElem_cons_zero, List.setIfInBounds_toArray, List.set_cons_succ, List.set_cons_zero]
          obtain ⟨q0, q1⟩ := row_at HF4.out HLI.out
          refine wpAnyH_ready (rs := [9]) (by kernel_rfl) (by simp) ?_
          refine AllReadyH.cons rfl (fun K hK => ?_) AllReadyH.nil
          go_simp
          refine hK.out _ _ (hid trivial) (fun hHeld => ?_)
          clear hK K
          refine wpAnyH_done (by kernel_rfl) ?_ _
          refine NoPanic.normal ?_
          clear q0 q1
          generalize w'.setCell ⟨B, i, none⟩ (.slice (some ⟨g, 0, none⟩) (k + 1) cap) = w5 at *
          obtain ⟨p0, p1⟩ := one_cell HZ5.out
          have CE := hid (err_any w5 R _ _ HNX.out.1)
          obtain ⟨ev, hev⟩ : ∃ ev, ev = (rdF .int sk).2.2 := ⟨_, rfl⟩
          rw [← hev] at CE
          by_cases h0 : ev = 0
          · have HNE := hid (HNX.out.2.1 (by rw [← hev]; exact h0))
            subst h0
            clear hev
            go_wp2_with (first | (go_at_call 100; refine CE.out.mono ?_; rintro en w6 ⟨rfl, rfl⟩))
            go_roundw
            case rel => exact ⟨k + 1, _, _, _, _, by go_num, HZ5.out, HNE.out⟩
            case measure => simp [intOf]; omega
          · have HNE := hid (HNX.out.2.2 (by rw [← hev]; exact h0) hn5)
            have hbe : (ev != 0) = true := by simp [h0]
            clear hev
            go_wp2_with (first | (go_at_call 100; refine CE.out.mono ?_; rintro en w6 ⟨rfl, rfl⟩))
            (try simp only [Exit.inBlock, Exit.then]); refine bodyPost_ret (results_none rfl _ _ _) rfl ?_
            obtain ⟨m1, m2, m3, m4⟩ := HNE.out
            refine ⟨rfl, .slice (some ⟨g, 0, none⟩) (k + 1) cap, ?_, m2, ?_, m4⟩
            · simp only [rdF]; rw [← HN.out.1, ← HN.out.2]; exact m1
            · simp only [rdF]; rw [← HN.out.1, ← HN.out.2]; exact m3
        · skip
          go_simp
          refine hK.out _ _ (hid trivial) (fun hHeld => ?_)
          clear hK K
          have d2 := (World.cell?_of_block (w := wT) (w' := wT.alloc (.cells #[.int .i64 y0] 3)) (a := ⟨B, i, none⟩) (H3.out.block B (lt_of_block HFT.out))).trans HDT.out
          refine wpAnyH_ready (rs := [3]) (by kernel_rfl) (by simp) ?_
          refine AllReadyH.cons rfl (fun K hK => ?_) AllReadyH.nil
          go_simp
          refine hK.out _ _ (hid trivial) (fun hHeld => ?_)
          clear hK K
          clear d2
          refine wpAnyH_ready (rs := [7]) (by kernel_rfl) (by simp) ?_
          refine AllReadyH.cons rfl (fun K hK => ?_) AllReadyH.nil
          refine step_app1 (by rfl) (.tmp 14) (.tmp 17) 32 (by rfl) (w.heap.size + 1) 3 Try.underlying32 HI0.out.1 HI0.out.2.1 HI0.out.2.2.1 HI0.out.2.2.2 (by simp [Value.cells]) (by decide) _ k _ (by rfl) HOW.out wT.heap.size [.int .i64 y0] (by rfl) HR3.out rfl (fun u hu => by simp only [List.mem_cons, List.not_mem_nil, or_false] at hu; subst hu; rfl) (by omega) (by decide) HSZ.out (fun g cap w' o5 g5 gg5 => ?_)
          have HF4 : Hid (w'.heap[B]? = some (.cells (cs.set i (.slice ao k c)).toArray t (0, 0))) := hid (heap_kept g5 ((H3.out.block B (lt_of_block HFT.out)).trans HFT.out) (fun e => by have := (HT.out.own.lt B e.symm).1; omega))
          have HZ5 : Hid ((w'.setCell ⟨B, i, none⟩ (.slice (some ⟨g, 0, none⟩) (k + 1) cap)).heap[w.heap.size]? = some (.cells #[.pointer (some ⟨R, 0, none⟩)] 105 (0, 0))) := hid (heap_kept (grown_set w' ⟨B, i, none⟩ _) (heap_kept g5 ((H3.out.block _ (lt_of_block HZT.out)).trans HZT.out) (fun e => by have := (HT.out.own.lt _ e.symm).1; omega)) (fun e => by have e9 : w.heap.size = B := (by simpa using e); exact Nat.lt_irrefl _ (Nat.lt_of_lt_of_le HBW.out (Nat.le_of_eq e9))))
          have HNX := hid (HT.out.next HRW.out HBW.out hRB hlt (show RdP .int R wr sk [.int .i64 y0] wT from HV.out) H3.out o5 g5 gg5)
          clear o5 g5 gg5
          refine hK.out _ _ (hid trivial) (fun hHeld => ?_)
          clear hK K
          simp only [Act.put, List.getElem_toArray, List.getElem_cons_succ, List.getElem_cons_zero, List.setIfInBounds_toArray, List.set_cons_succ, List.set_cons_zero]
          refine wpAnyH_take (i := 8) (v := (.pointer (some ⟨B, i, none⟩))) rfl (by kernel_rfl) (by kernel_rfl) (by kernel_rfl) (fun _ _ _ h => (show False from h).elim) ?xyRLint7 ?xhRLint7 ?xrRLint7
          case xhRLint7 => exact hHeld
          case xyRLint7 => exact Or.inl ⟨by rfl, fun W9 hW => by clear hHeld; simp only [List.getElem_toArray, List.getElem_cons_succ, List.getElem_cons_zero]; go_simp⟩
          simp only [Act.put, List.getElem_toArray, List.getElem_cons_succ, List.getElem_cons_zero, List.setIfInBounds_toArray, List.set_cons_succ, List.set_cons_zero]
          obtain ⟨q0, q1⟩ := row_at HF4.out HLI.out
          refine wpAnyH_ready (rs := [9]) (by kernel_rfl) (by simp) ?_
          refine AllReadyH.cons rfl (fun K hK => ?_) AllReadyH.nil
          go_simp
          refine hK.out _ _ (hid trivial) (fun hHeld => ?_)
          clear hK K
          refine wpAnyH_done (by kernel_rfl) ?_ _
          refine NoPanic.normal ?_
          clear q0 q1
          generalize w'.setCell ⟨B, i, none⟩ (.slice (some ⟨g, 0, none⟩) (k + 1) cap) = w5 at *
          obtain ⟨p0, p1⟩ := one_cell HZ5.out
          have CE := hid (err_any w5 R _ _ HNX.out.1)
          obtain ⟨ev, hev⟩ : ∃ ev, ev = (rdF .int sk).2.2 := ⟨_, rfl⟩
          rw [← hev] at CE
          by_cases h0 : ev = 0
          · have HNE := hid (HNX.out.2.1 (by rw [← hev]; exact h0))
            subst h0
            clear hev
            go_wp2_with (first | (go_at_call 100; refine CE.out.mono ?_; rintro en w6 ⟨rfl, rfl⟩))
            go_roundw
            case rel => exact ⟨k + 1, _, _, _, _, by go_num, HZ5.out, HNE.out⟩
            case measure => simp [intOf]; omega
          · have HNE := hid (HNX.out.2.2 (by rw [← hev]; exact h0) hn5)
            have hbe : (ev != 0) = true := by simp [h0]
            clear hev
            go_wp2_with (first | (go_at_call 100; refine CE.out.mono ?_; rintro en w6 ⟨rfl, rfl⟩))
            (try simp only [Exit.inBlock, Exit.then]); refine bodyPost_ret (results_none rfl _ _ _) rfl ?_
            obtain ⟨m1, m2, m3, m4⟩ := HNE.out
            refine ⟨rfl, .slice (some ⟨g, 0, none⟩) (k + 1) cap, ?_, m2, ?_, m4⟩
            · simp only [rdF]; rw [← HN.out.1, ← HN.out.2]; exact m1
            · simp only [rdF]; rw [← HN.out.1, ← HN.out.2]; exact m3
    · obtain rfl : n = k := by omega
      have hki : ¬ (n : Int) < (n : Int) := by omega
      go_wp2_with fail
      go_end0
      obtain ⟨p1, p2⟩ := HT.out.done hn5
      refine ⟨rfl, .slice ao n c, ?_, HT.out.field, ?_, HT.out.keep⟩
      · simp only [rdF]; rw [← HN.out.1, ← HN.out.2]; exact p1
      · simp only [rdF]; rw [← HN.out.1, ← HN.out.2]; exact p2

end Go.Proofs.Ytiblambiebojmaa

