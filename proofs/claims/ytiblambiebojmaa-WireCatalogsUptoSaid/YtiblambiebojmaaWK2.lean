import Derived.Test.YtiblambiebojmaaRows
import Derived.Deep.Strs
import Derived.Deep.Slices
import Derived.WalkKit
import Derived.OpenShut
import Derived.WalkSpells
import Derived.WalkLawsBesides
import Derived.Laws.AppendOwnNone
import Derived.ProofKit
import Derived.ShutString
import Derived.ChangeOld
import Derived.Below
import Derived.SizedLaws
import Derived.Deep.AppendLies
import Derived.Test.YtiblambiebojmaaWK1
set_option linter.unusedVariables false
set_option linter.unusedSimpArgs false
set_option linter.unusedVariables false
set_option maxRecDepth 100000
namespace Go.Proofs.Ytiblambiebojmaa
open Go.RowKit Go.ChangeShapes Go.WideShapes Go.ChangeAt Go.Deep

/-- A shape: a number, a signed one, a bool, bytes, a string, a list, and a struct (its fields one by one). -/
inductive Sh where
  | num
  | int
  | bool
  | data
  | name
  | list (s : Sh)
  | nil
  | cons (s r : Sh)

def Sh.wid : Sh → Nat
  | .nil => 0
  | .cons s r => s.wid + r.wid
  | _ => 1

/-- The cells have these plain bytes. -/
def Enc (W : World) : Sh → List Value → List UInt8 → Prop
  | .num, cs, bs => ∃ n : Nat, n < 18446744073709551616 ∧ cs = [.int .u64 (n : Int)] ∧ bs = numL n
  | .int, cs, bs => ∃ z : Int, (Lit.int .i64 z).wf = true ∧ cs = [.int .i64 z] ∧ bs = numL (zig z)
  | .bool, cs, bs => ∃ b : Bool, cs = [.bool b] ∧ bs = numL (if b then 1 else 0)
  | .data, cs, bs => ∃ x l, cs = [x] ∧ x.oneCell' = true ∧ Rd W x l ∧ l.length ≤ 1048576 ∧ bs = textL l
  | .name, cs, bs => ∃ l : List UInt8, cs = [.string ⟨l.toArray⟩] ∧ l.length ≤ 1048576 ∧ bs = textL l
  | .list s, cs, bs => ∃ (a : Option Addr) (c : Nat) (M : List (List Value × List UInt8)), cs = [.slice a M.length c] ∧ Rws s.wid W (.slice a M.length c) (M.map (·.1)) ∧ (∀ m ∈ M, Enc W s m.1 m.2) ∧ M.length ≤ 1048576 ∧ bs = numL M.length ++ (M.map (·.2)).flatten
  | .nil, cs, bs => cs = [] ∧ bs = []
  | .cons s r, cs, bs => ∃ c1 c2 b1 b2, cs = c1 ++ c2 ∧ bs = b1 ++ b2 ∧ Enc W s c1 b1 ∧ Enc W r c2 b2

theorem Enc.old {W W' : World} (hb : Below W.heap.size W W') : ∀ (s : Sh) {cs : List Value} {bs : List UInt8}, Enc W s cs bs → Enc W' s cs bs
  | .num, cs, bs, h => h
  | .int, cs, bs, h => h
  | .bool, cs, bs, h => h
  | .data, cs, bs, h => by
    obtain ⟨x, l, h1, h2, h3, h4⟩ := h
    exact ⟨x, l, h1, h2, h3.old hb, h4⟩
  | .name, cs, bs, h => h
  | .list s, cs, bs, h => by
    obtain ⟨a, c, M, h1, h2, h3, h4⟩ := h
    exact ⟨a, c, M, h1, h2.old hb, fun m hm => Enc.old hb s (h3 m hm), h4⟩
  | .nil, cs, bs, h => h
  | .cons s r, cs, bs, h => by
    obtain ⟨c1, c2, b1, b2, h1, h2, h3, h4⟩ := h
    exact ⟨c1, c2, b1, b2, h1, h2, Enc.old hb s h3, Enc.old hb r h4⟩

/-- How many cells there are; each is one cell. -/
theorem Enc.wide {W : World} : ∀ (s : Sh) {cs : List Value} {bs : List UInt8}, Enc W s cs bs → cs.length = s.wid ∧ ∀ u ∈ cs, u.oneCell' = true
  | .num, cs, bs, h => by obtain ⟨n, _, rfl, _⟩ := h; exact ⟨rfl, fun u hu => by simp at hu; subst hu; rfl⟩
  | .int, cs, bs, h => by obtain ⟨n, _, rfl, _⟩ := h; exact ⟨rfl, fun u hu => by simp at hu; subst hu; rfl⟩
  | .bool, cs, bs, h => by obtain ⟨n, rfl, _⟩ := h; exact ⟨rfl, fun u hu => by simp at hu; subst hu; rfl⟩
  | .data, cs, bs, h => by obtain ⟨x, l, rfl, h2, _⟩ := h; exact ⟨rfl, fun u hu => by simp at hu; subst hu; exact h2⟩
  | .name, cs, bs, h => by obtain ⟨n, rfl, _⟩ := h; exact ⟨rfl, fun u hu => by simp at hu; subst hu; rfl⟩
  | .list s, cs, bs, h => by obtain ⟨a, c, M, rfl, _⟩ := h; exact ⟨rfl, fun u hu => by simp at hu; subst hu; rfl⟩
  | .nil, cs, bs, h => by obtain ⟨rfl, _⟩ := h; exact ⟨rfl, fun u hu => by cases hu⟩
  | .cons s r, cs, bs, h => by
    obtain ⟨c1, c2, b1, b2, rfl, _, h3, h4⟩ := h
    obtain ⟨p1, p2⟩ := Enc.wide s h3
    obtain ⟨q1, q2⟩ := Enc.wide r h4
    refine ⟨by rw [List.length_append, p1, q1]; rfl, fun u hu => ?_⟩
    rcases List.mem_append.1 hu with hu | hu
    · exact p2 u hu
    · exact q2 u hu

/-- A type has the shape. -/
noncomputable def ofF (T : Sh → TypeId → Bool) : Sh → List Field → Nat → Bool
  | .nil, [], _ => true
  | .cons s r, f :: fs, off => f.offset == off && Try.prog.cellsOf f.type == s.wid && T s f.type && ofF T r fs (off + s.wid)
  | _, _, _ => false

noncomputable def ofT : Nat → Sh → TypeId → Bool
  | 0, _, _ => false
  | _ + 1, .num, t => match Try.prog.underlying t with | some (.int .u64) => true | _ => false
  | _ + 1, .int, t => match Try.prog.underlying t with | some (.int .i64) => true | _ => false
  | _ + 1, .bool, t => match Try.prog.underlying t with | some .bool => true | _ => false
  | _ + 1, .data, t => t == 23
  | _ + 1, .name, t => match Try.prog.underlying t with | some .string => true | _ => false
  | n + 1, .list s, t => match Try.prog.underlying t with | some (.slice e) => Try.prog.cellsOf e == s.wid && ofT n s e | _ => false
  | n + 1, s, t => match Try.prog.underlying t with | some (.struct fs) => Try.prog.cellsOf t == s.wid && ofF (ofT n) s fs.toList 0 | _ => false

variable {H : Type} {enc : TypeId × Value → H} {W : World}

theorem bulk_mem {ds : List (DataW H)} : ∀ {d : DataW H}, d ∈ ds → Rows.uptoBulk d ≤ Rows.uptoBulkAll ds := by
  induction ds with
  | nil => intro d h; cases h
  | cons x r ih =>
    intro d h
    simp only [Rows.uptoBulkAll]
    rcases List.mem_cons.1 h with rfl | h
    · omega
    · have := ih h; omega

theorem bulk_lits {k : IntKind} (zs : List Int) : Rows.uptoBulkAll (H := H) (lits k zs) = zs.length := by
  induction zs with
  | nil => rfl
  | cons z zs ih =>
    show Rows.uptoBulkAll ((.lit (.int k z)) :: lits k zs) = _
    simp only [Rows.uptoBulkAll, ih, Rows.uptoBulk, List.length_cons]
    omega

theorem textL_le (l : List UInt8) (h : l.length < 2 ^ 64) : (textL l).length ≤ 10 + l.length := by
  have := numL_len10 h
  unfold textL
  rw [List.length_append]
  omega

/-- What is of a shape, read as data, has plain bytes. -/
def Opens (n : Nat) : Prop := ∀ (s : Sh) (t : TypeId) (m : Nat) (cs : List Value) (y : DataW H × List MemPlace), ofT n s t = true → DataW.trod enc Try.prog W 0 (fun _ => true) true m t cs = some y →
    Rows.uptoBulk y.1 ≤ 1048576 → ∃ bs, Enc W s cs bs ∧ bs.length ≤ 10 * Rows.uptoBulk y.1

theorem fields_open {k : Nat} (hk : Opens (enc := enc) (W := W) k) (n : Nat) (cs : List Value) : ∀ (s : Sh) (fs : List Field) (off : Nat) (xs : List (DataW H × List MemPlace)),
    ofF (ofT k) s fs off = true → xs.length = fs.length → (∀ (j : Nat) (f : Field), fs[j]? = some f → DataW.trod enc Try.prog W 0 (fun _ => true) true n f.type ((cs.drop f.offset).take (Try.prog.cellsOf f.type)) = xs[j]?) →
    cs.length = off + s.wid → Rows.uptoBulkAll (xs.map (·.1)) ≤ 1048576 → ∃ bs, Enc W s (cs.drop off) bs ∧ bs.length ≤ 10 * Rows.uptoBulkAll (xs.map (·.1))
  | .nil, [], off, [], _, _, _, hc, _ => by
    refine ⟨[], ⟨?_, rfl⟩, by simp⟩
    apply List.drop_eq_nil_of_le
    simp [Sh.wid] at hc
    omega
  | .cons s r, f :: fs, off, y :: xs, h, hl, hx, hc, hb => by
    simp only [ofF, Bool.and_eq_true, beq_iff_eq] at h
    obtain ⟨⟨⟨h1, h2⟩, h3⟩, h4⟩ := h
    simp only [List.map_cons, Rows.uptoBulkAll] at hb
    have t0 := hx 0 f rfl
    simp only [List.getElem?_cons_zero] at t0
    rw [h1, h2] at t0
    obtain ⟨b1, e1, l1⟩ := hk s _ _ _ _ h3 t0 (by omega)
    have hc' : cs.length = off + s.wid + r.wid := by simp only [Sh.wid] at hc; omega
    obtain ⟨b2, e2, l2⟩ := fields_open hk n cs r fs (off + s.wid) xs h4 (by simpa using hl) (fun j g hg => by simpa using hx (j + 1) g (by simpa using hg)) hc' (by omega)
    refine ⟨b1 ++ b2, ⟨_, _, b1, b2, ?_, rfl, e1, e2⟩, ?_⟩
    · rw [← List.drop_drop, List.take_append_drop]
    · rw [List.length_append]
      simp only [List.map_cons, Rows.uptoBulkAll]
      omega

theorem struct_open {n : Nat} (ih : Opens (enc := enc) (W := W) n) (s : Sh) (t : TypeId) (m : Nat) (cs : List Value) (y : DataW H × List MemPlace)
    (h : (match Try.prog.underlying t with | some (.struct fs) => Try.prog.cellsOf t == s.wid && ofF (ofT n) s fs.toList 0 | _ => false) = true)
    (ht : DataW.trod enc Try.prog W 0 (fun _ => true) true m t cs = some y) (hb : Rows.uptoBulk y.1 ≤ 1048576) : ∃ bs, Enc W s cs bs ∧ bs.length ≤ 10 * Rows.uptoBulk y.1 := by
  split at h
  · rename_i fs hu
    simp only [Bool.and_eq_true, beq_iff_eq] at h
    obtain ⟨xs, k, _, rfl, hl, hlen, hf⟩ := DataW.trod_struct hu ht
    simp only [Rows.uptoBulk] at hb
    obtain ⟨bs, e, l⟩ := fields_open ih k cs s fs.toList 0 xs h.2 (by simpa using hlen) (fun j f hj => hf j f (by simpa using hj)) (by rw [hl, h.1]; omega) (by omega)
    refine ⟨bs, by simpa using e, ?_⟩
    simp only [Rows.uptoBulk]
    omega
  · cases h

theorem opens : ∀ n, Opens (enc := enc) (W := W) n
  | 0 => fun s t m cs y h => by cases h
  | n + 1 => fun s t m cs y h ht hb => by
    have ih := opens n
    cases s with
    | num =>
      simp only [ofT] at h
      split at h
      · rename_i hu
        obtain ⟨i, rfl, rfl, hw⟩ := DataW.trod_int hu ht
        have hbd := bounds_u64 hw
        obtain ⟨k, rfl⟩ : ∃ k : Nat, i = (k : Int) := ⟨i.toNat, by omega⟩
        refine ⟨numL k, ⟨k, by omega, rfl, rfl⟩, ?_⟩
        have := numL_len10 (v := k) (by omega)
        simp only [Rows.uptoBulk]
        omega
      · cases h
    | int =>
      simp only [ofT] at h
      split at h
      · rename_i hu
        obtain ⟨i, rfl, rfl, hw⟩ := DataW.trod_int hu ht
        refine ⟨_, ⟨i, hw, rfl, rfl⟩, ?_⟩
        have := numL_zig hw
        simp only [Rows.uptoBulk]
        omega
      · cases h
    | bool =>
      simp only [ofT] at h
      split at h
      · rename_i hu
        obtain ⟨b, rfl, rfl⟩ := DataW.trod_bool hu ht
        refine ⟨_, ⟨b, rfl, rfl⟩, ?_⟩
        have := numL_len10 (v := if b then 1 else 0) (by split <;> decide)
        simp only [Rows.uptoBulk]
        omega
      · cases h
    | data =>
      simp only [ofT, beq_iff_eq] at h
      subst h
      rcases open_ints Try.underlying23 Try.underlying5 (by kernel_rfl) ht with ⟨hcs, hx⟩ | ⟨x, l, c, zs, hcs, _, hl, hm, hz, hx, hcell, hwz⟩
      · subst hcs; subst hx
        refine ⟨_, ⟨_, [], rfl, rfl, Rd.nil W, by simp, rfl⟩, ?_⟩
        have := textL_le [] (by simp)
        simp only [Rows.uptoBulk]
        simp at this
        omega
      · have hz' : zs.length = c := by simpa using hz
        obtain ⟨b, hbl, hr⟩ := rd_of_row (w := W) (a := some x) (len := l) (cap := c) (zs := zs) (.inr ⟨_, rfl, hl, hm, hz', hcell, hwz⟩)
        subst hbl
        subst hcs
        rw [hx] at hb ⊢
        simp only [Rows.uptoBulk, bulk_lits, List.length_take, List.length_drop] at hb ⊢
        refine ⟨_, ⟨_, b, rfl, rfl, hr, by omega, rfl⟩, ?_⟩
        have := textL_le b (by omega)
        omega
    | name =>
      simp only [ofT] at h
      split at h
      · rename_i hu
        obtain ⟨b, rfl, rfl, _⟩ := DataW.trod_string hu ht
        simp only [Rows.uptoBulk] at hb ⊢
        refine ⟨_, ⟨b.data.toList, by simp, by omega, rfl⟩, ?_⟩
        have := textL_le b.data.toList (by omega)
        omega
      · cases h
    | list s =>
      simp only [ofT] at h
      split at h
      · rename_i e hu
        simp only [Bool.and_eq_true, beq_iff_eq] at h
        obtain ⟨hw, ho⟩ := h
        rcases open_slice hu ht with ⟨hcs, hx⟩ | ⟨x, len, cap, m', n', D, Pl, hcs, _, hl, hm, hmm, hx, hcell⟩
        · subst hcs; subst hx
          refine ⟨_, ⟨none, 0, [], rfl, Rws.nil _ W, (fun m hm => by cases hm), by simp, rfl⟩, ?_⟩
          have := numL_len10 (v := 0) (by omega)
          simp only [Rows.uptoBulk]
          simp
          omega
        · rw [hw] at hcell
          rw [hx] at hb ⊢
          simp only [Rows.uptoBulk] at hb ⊢
          have hmem : ∀ i, i < len → Rows.uptoBulk (D i) ≤ Rows.uptoBulkAll ((List.range len).map D) := fun i hi => bulk_mem (List.mem_map.2 ⟨i, List.mem_range.2 hi, rfl⟩)
          have key : ∀ i, i < len → ∃ v : List Value × List UInt8, (∀ j u, v.1[j]? = some u → W.cell? (x.add (i * s.wid + j)) = some u) ∧ Enc W s v.1 v.2 ∧ v.2.length ≤ 10 * Rows.uptoBulk (D i) := by
            intro i hi
            obtain ⟨cs', h1, h2⟩ := hcell i (by rw [hmm]; simp; omega)
            have := hmem i hi
            obtain ⟨bs, e1, e2⟩ := ih s _ _ _ _ ho h2 (by show Rows.uptoBulk (D i) ≤ _; omega)
            obtain ⟨_, hl2, hc⟩ := World.cells?_some h1
            refine ⟨(cs', bs), fun j u hj => ?_, e1, e2⟩
            have hjl := (List.getElem?_eq_some_iff.1 hj).1
            have := hc j (by rw [← hl2]; exact hjl)
            rw [add_add] at this
            rw [this]
            exact hj
          obtain ⟨f, hf2⟩ := choose_lt key
          have hlen : ((List.range len).map f).length = len := by simp
          have hge : len ≤ Rows.uptoBulkAll ((List.range len).map D) := by
            have hone : ∀ d : DataW H, 1 ≤ Rows.uptoBulk d := fun d => by
              cases d with
              | lit l => cases l <;> simp [Rows.uptoBulk]
              | _ => simp [Rows.uptoBulk]
            have : ∀ l : List (DataW H), l.length ≤ Rows.uptoBulkAll l := fun l => by
              induction l with
              | nil => simp
              | cons d l ih => simp only [Rows.uptoBulkAll, List.length_cons]; have := hone d; omega
            simpa using this ((List.range len).map D)
          have hrd : ∀ m ∈ (List.range len).map f, Enc W s m.1 m.2 := fun m hm => by
            obtain ⟨i, hi, rfl⟩ := List.mem_map.1 hm
            exact (hf2 i (List.mem_range.1 hi)).2.1
          have hwd : Wide s.wid (((List.range len).map f).map (·.1)) := fun r hr => by
            obtain ⟨m, hm, rfl⟩ := List.mem_map.1 hr
            exact (hrd m hm).wide
          have hsum : ∀ l : List Nat, (∀ i ∈ l, i < len) → ((l.map f).map (·.2)).flatten.length ≤ 10 * Rows.uptoBulkAll (l.map D) := fun l => by
            induction l with
            | nil => intro _; simp
            | cons i l ihl =>
              intro hl
              have h1 := (hf2 i (hl i (by simp))).2.2
              have h2 := ihl fun j hj => hl j (by simp [hj])
              simp only [List.map_cons, List.flatten_cons, List.length_append, Rows.uptoBulkAll]
              omega
          subst hcs
          refine ⟨numL len ++ (((List.range len).map f).map (·.2)).flatten, ⟨some x, cap, (List.range len).map f, by rw [hlen], ⟨some x, cap, by simp, by rw [List.length_map, hlen]; exact hl, hm, (fun h => by cases h), hwd, fun a ha j u hu => ?_⟩, hrd, by rw [hlen]; omega, by rw [hlen]⟩, ?_⟩
          · cases ha
            have hjl := (List.getElem?_eq_some_iff.1 hu).1
            rw [hwd.len, List.length_map, hlen] at hjl
            have hpos : 0 < s.wid := by
              rcases Nat.eq_zero_or_pos s.wid with h | h
              · rw [h] at hjl; omega
              · exact h
            have hk : j / s.wid < len := Nat.div_lt_of_lt_mul (by rw [Nat.mul_comm]; exact hjl)
            have h1 : (((List.range len).map f).map (·.1))[j / s.wid]? = some (f (j / s.wid)).1 := by
              rw [List.getElem?_map, List.getElem?_map, List.getElem?_range hk]
              rfl
            have hmod : j % s.wid < (f (j / s.wid)).1.length := by rw [((hf2 _ hk).2.1).wide.1]; exact Nat.mod_lt _ hpos
            have h2 : (f (j / s.wid)).1[j % s.wid]? = some ((f (j / s.wid)).1[j % s.wid]'hmod) := List.getElem?_eq_getElem _
            have h3 := hwd.at h1 h2
            have e : j / s.wid * s.wid + j % s.wid = j := by rw [Nat.mul_comm]; exact Nat.div_add_mod j s.wid
            rw [e, hu] at h3
            have h4 := (hf2 (j / s.wid) hk).1 (j % s.wid) u (by rw [h2]; exact h3.symm)
            rw [e] at h4
            exact h4
          · have h1 := hsum (List.range len) fun i hi => List.mem_range.1 hi
            have h2 := numL_len10 (v := len) (by omega)
            rw [List.length_append]
            omega
      · cases h
    | nil => exact struct_open ih .nil t m cs y h ht hb
    | cons s r => exact struct_open ih (.cons s r) t m cs y h ht hb
end Go.Proofs.Ytiblambiebojmaa

set_option linter.unusedVariables false
namespace Go.Proofs.Ytiblambiebojmaa
open Go.RowKit

/-- All that lay lies, but for the blocks of X. -/
structure Keep (X : Nat → Prop) (w w' : World) : Prop where
  os : w'.os = w.os
  tape : w'.tape = w.tape
  output : w'.output = w.output
  size : w.heap.size ≤ w'.heap.size
  block : ∀ k, k < w.heap.size → ¬ X k → w'.heap[k]? = w.heap[k]?

theorem Keep.refl (X : Nat → Prop) (w : World) : Keep X w w := ⟨rfl, rfl, rfl, Nat.le_refl _, fun _ _ _ => rfl⟩
theorem Keep.trans {X : Nat → Prop} {a b c : World} (h : Keep X a b) (k : Keep X b c) : Keep X a c :=
  ⟨k.os.trans h.os, k.tape.trans h.tape, k.output.trans h.output, Nat.le_trans h.size k.size, fun i hi hn => (k.block i (Nat.lt_of_lt_of_le hi h.size) hn).trans (h.block i hi hn)⟩
/-- The second step's blocks: some of the first one's, or new ones. -/
theorem Keep.trans2 {X Y : Nat → Prop} {a b c : World} (h : Keep X a b) (k : Keep Y b c) (hy : ∀ i, Y i → X i ∨ a.heap.size ≤ i) : Keep X a c :=
  ⟨k.os.trans h.os, k.tape.trans h.tape, k.output.trans h.output, Nat.le_trans h.size k.size, fun i hi hn => (k.block i (Nat.lt_of_lt_of_le hi h.size) (fun e => (hy i e).elim hn (by omega))).trans (h.block i hi hn)⟩
theorem Keep.mono {X Y : Nat → Prop} {a b : World} (h : Keep X a b) (hxy : ∀ k, k < a.heap.size → X k → Y k) : Keep Y a b :=
  ⟨h.os, h.tape, h.output, h.size, fun i hi hn => h.block i hi (fun hx => hn (hxy i hi hx))⟩
theorem Keep.of_below {X : Nat → Prop} {w w' : World} (h : Below w.heap.size w w') : Keep X w w' := ⟨h.os, h.tape, h.output, h.size, fun k hk _ => h.block k hk⟩
theorem Keep.of_grown {X : Nat → Prop} {w w' : World} {row : Option Nat} (h : w.grownBy w' row) (hx : ∀ k, row = some k → X k) : Keep X w w' :=
  ⟨h.os, h.tape, h.output, h.size, fun k hk hn => h.block k hk (fun e => hn (hx k e.symm))⟩
theorem Keep.below {X : Nat → Prop} {w w' : World} {n : Nat} (h : Keep X w w') (hn : n ≤ w.heap.size) (hx : ∀ k, X k → n ≤ k) : Below n w w' :=
  ⟨h.os, h.tape, h.output, h.size, fun k hk => h.block k (Nat.lt_of_lt_of_le hk hn) (fun hx' => by have := hx k hx'; omega)⟩
theorem Keep.set {X : Nat → Prop} (w : World) (a : Addr) (v : Value) (hx : X a.block) : Keep X w (w.setCell a v) := Keep.of_grown (grown_set w a v) (fun k e => by cases e; exact hx)
/-- What is owned stays owned. -/
theorem own_keep {X : Nat → Prop} {w w' : World} {base : Nat} {e : TypeId} {size : Nat} {v : Value} {n : Nat} {xs : List Value} (h : w.ownsRow base e size v n xs) (hk : Keep X w w') (hx : ∀ k, v.ownBlock = some k → ¬ X k) : w'.ownsRow base e size v n xs :=
  ⟨h.1, h.2.imp id fun ⟨g, cap, cur, a, b, c, d⟩ => ⟨g, cap, cur, a, b, by rw [hk.block g (lt_of_block c) (hx g (by rw [a]; rfl))]; exact c, d⟩⟩

theorem Rd.keep {X : Nat → Prop} {w w' : World} {x : Value} {l : List UInt8} (h : Rd w x l) (hk : Keep X w w') (hx : l ≠ [] → ∀ k, blk x = some k → ¬ X k) : Rd w' x l := by
  obtain ⟨ao, c, rfl, h1, h2, h3, h4⟩ := h
  refine ⟨ao, c, rfl, h1, h2, h3, fun a ha j u hu => ?_⟩
  subst ha
  have h6 := h4 a rfl j u hu
  have hlt := World.block_lt_of_cell? w _ h6
  rw [World.cell?_of_block (w := w) (a := a.add j) (hk.block _ hlt (by rw [add_block]; exact hx (fun e => by subst e; simp at hu) _ rfl))]
  exact h6
theorem Rws.keep {X : Nat → Prop} {size : Nat} {w w' : World} {x : Value} {L : List (List Value)} (h : Rws size w x L) (hk : Keep X w w') (hx : L ≠ [] → ∀ k, blk x = some k → ¬ X k) : Rws size w' x L := by
  obtain ⟨ao, c, rfl, h1, h2, h3, h5, h4⟩ := h
  refine ⟨ao, c, rfl, h1, h2, h3, h5, fun a ha j u hu => ?_⟩
  subst ha
  have h6 := h4 a rfl j u hu
  have hlt := World.block_lt_of_cell? w _ h6
  rw [World.cell?_of_block (w := w) (a := a.add j) (hk.block _ hlt (by rw [add_block]; exact hx (fun e => by subst e; simp at hu) _ rfl))]
  exact h6
theorem ownBlock_blk (v : Value) : v.ownBlock = blk v := by cases v <;> first | rfl | (rename_i a n c; cases a <;> rfl)

end Go.Proofs.Ytiblambiebojmaa

