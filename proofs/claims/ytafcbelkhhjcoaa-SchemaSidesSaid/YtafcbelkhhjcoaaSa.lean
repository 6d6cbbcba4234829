/-
  LAYER 12: NAMES, PLACES, TABLES, INDEXES, CATALOGS: which are right; how they lie in memory.
-/
import Derived.Test.YtafcbelkhhjcoaaRows
import Derived.Test.YtafcbelkhhjcoaaRws
import Derived.Test.YtafcbelkhhjcoaaKeep
set_option linter.unusedVariables false
set_option linter.unusedSimpArgs false
set_option maxRecDepth 100000
namespace Go.Proofs.Ytafcbelkhhjcoaa
open Go.RowKit Go.Deep

structure Col where
  name : List UInt8
  kind : Int
  null : Bool
deriving DecidableEq
structure Tab where
  id : Int
  name : List UInt8
  cols : List Col
  key : List Int
deriving DecidableEq
structure Idx where
  id : Int
  table : Int
  name : List UInt8
  cols : List Int
  uniq : Bool
  state : Int
  bad : Bool
deriving DecidableEq
structure Cat where
  ver : Int
  nxt : Int
  tabs : List Tab
  idxs : List Idx
deriving DecidableEq

/-! ### What is right -/
def okByte (n : Nat) : Bool := (decide (97 ≤ n) && decide (n ≤ 122)) || (decide (48 ≤ n) && decide (n ≤ 57)) || decide (n = 95)
def nameB (s : List UInt8) : Bool := s.all (fun c => okByte c.toNat) && decide (1 ≤ s.length) && decide (s.length ≤ 20)

/-- The rest of a list of places, behind those of 'p'. -/
def plcs (n : Int) : List Int → List Int → Bool
  | _, [] => true
  | p, z :: r => !(decide (z < 0) || decide (n ≤ z) || p.contains z) && plcs n (p ++ [z]) r
def placesB (l : List Int) (n : Int) : Bool := plcs n [] l && decide (1 ≤ l.length) && decide (l.length ≤ 6)

def colB (p : List Col) (c : Col) : Bool := nameB c.name && (decide (c.kind = 1) || decide (c.kind = 2)) && !(p.any fun d => decide (d.name = c.name))
def colsB : List Col → List Col → Bool
  | _, [] => true
  | p, c :: r => colB p c && colsB (p ++ [c]) r
def colAt (l : List Col) (z : Int) : Col := l.getD z.toNat ⟨[], 0, false⟩
def tabB (t : Tab) : Bool := nameB t.name && decide (1 ≤ t.cols.length) && decide (t.cols.length ≤ 6) && placesB t.key t.cols.length && colsB [] t.cols && t.key.all (fun z => !(colAt t.cols z).null)

/-- One table more, behind those of 'p'. -/
def tabNew (nxt : Int) (p : List Tab) (t : Tab) : Bool :=
  decide (1 ≤ t.id) && decide (t.id < nxt) && !((p.map (·.id)).contains t.id) && (match p.getLast? with | none => true | some q => decide (q.id < t.id)) && tabB t && !(p.any fun q => decide (q.name = t.name))
def tabsB (nxt : Int) : List Tab → List Tab → Bool
  | _, [] => true
  | p, t :: r => tabNew nxt p t && tabsB nxt (p ++ [t]) r

def byId (l : List Tab) (z : Int) : Option Tab := l.find? (fun t => decide (t.id = z))
def idxNew (C : Cat) (p : List Idx) (x : Idx) : Bool :=
  decide (1 ≤ x.id) && decide (x.id < C.nxt) && !((C.tabs.map (·.id) ++ p.map (·.id)).contains x.id) && (match p.getLast? with | none => true | some q => decide (q.id < x.id)) &&
  (match byId C.tabs x.table with | none => false | some t => nameB x.name && placesB x.cols t.cols.length) && decide (1 ≤ x.state) && decide (x.state ≤ 7) && !(p.any fun q => decide (q.name = x.name))
def idxsB (C : Cat) : List Idx → List Idx → Bool
  | _, [] => true
  | p, x :: r => idxNew C p x && idxsB C (p ++ [x]) r
def catB (C : Cat) : Bool := decide (0 ≤ C.ver) && decide (1 ≤ C.nxt) && decide (C.nxt ≤ 1073741824) && decide (C.tabs.length ≤ 6) && decide (C.idxs.length ≤ 10) && tabsB C.nxt [] C.tabs && idxsB C [] C.idxs

/-! ### In memory -/
def i64 (z : Int) : Prop := -9223372036854775808 ≤ z ∧ z ≤ 9223372036854775807
def nmW (s : List UInt8) : Prop := s.length ≤ 140737488355328
def Tab.W (t : Tab) : Prop := i64 t.id ∧ nmW t.name ∧ (∀ c ∈ t.cols, nmW c.name ∧ i64 c.kind) ∧ (∀ z ∈ t.key, i64 z) ∧ t.cols.length ≤ 140737488355328 ∧ t.key.length ≤ 140737488355328
def Idx.W (x : Idx) : Prop := i64 x.id ∧ i64 x.table ∧ nmW x.name ∧ (∀ z ∈ x.cols, i64 z) ∧ i64 x.state ∧ x.cols.length ≤ 140737488355328
def Cat.W (C : Cat) : Prop := i64 C.ver ∧ i64 C.nxt ∧ (∀ t ∈ C.tabs, t.W) ∧ (∀ x ∈ C.idxs, x.W) ∧ C.tabs.length ≤ 140737488355328 ∧ C.idxs.length ≤ 140737488355328
def zRow (z : Int) : List Value := [.int .i64 z]
def colRow (c : Col) : List Value := [.string ⟨c.name.toArray⟩, .int .i64 c.kind, .bool c.null]

/-- The slice x reads as these numbers (all its memory, if there is some, in blocks of N). -/
def ZsN (N : Nat → Prop) (w : World) (x : Value) (l : List Int) : Prop := Rws 1 w x (l.map zRow) ∧ (l ≠ [] → ∀ k, blk x = some k → N k)
def ClsN (N : Nat → Prop) (w : World) (x : Value) (l : List Col) : Prop := Rws 3 w x (l.map colRow) ∧ (l ≠ [] → ∀ k, blk x = some k → N k)

def TabN (N : Nat → Prop) (w : World) (cs : List Value) (t : Tab) : Prop :=
  ∃ x y, cs = [.int .i64 t.id, .string ⟨t.name.toArray⟩, x, y] ∧ ClsN N w x t.cols ∧ ZsN N w y t.key ∧ x.oneCell' = true ∧ y.oneCell' = true
def IdxN (N : Nat → Prop) (w : World) (cs : List Value) (x : Idx) : Prop :=
  ∃ y, cs = [.int .i64 x.id, .int .i64 x.table, .string ⟨x.name.toArray⟩, y, .bool x.uniq, .int .i64 x.state, .bool x.bad] ∧ ZsN N w y x.cols ∧ y.oneCell' = true

/-- A list of structs, each of whose rows reads as its thing. -/
def LstN {α : Type} (R : World → List Value → α → Prop) (n : Nat) (N : Nat → Prop) (w : World) (x : Value) (l : List α) : Prop :=
  ∃ M : List (List Value), M.length = l.length ∧ Rws n w x M ∧ (∀ (i : Nat) r a, M[i]? = some r → l[i]? = some a → R w r a) ∧ (l ≠ [] → ∀ k, blk x = some k → N k)
def CatN (N : Nat → Prop) (w : World) (cs : List Value) (C : Cat) : Prop :=
  ∃ x y, cs = [.int .i64 C.ver, .int .i64 C.nxt, x, y] ∧ LstN (TabN N) 4 N w x C.tabs ∧ LstN (IdxN N) 7 N w y C.idxs ∧ x.oneCell' = true ∧ y.oneCell' = true

theorem ZsN.keep {N X : Nat → Prop} {w w' : World} {x : Value} {l : List Int} (h : ZsN N w x l) (hk : Keep X w w') (hx : ∀ k, N k → ¬ X k) : ZsN N w' x l :=
  ⟨h.1.keep hk (fun h0 k hb => hx k (h.2 (fun e => h0 (by rw [e]; rfl)) k hb)), h.2⟩
theorem ClsN.keep {N X : Nat → Prop} {w w' : World} {x : Value} {l : List Col} (h : ClsN N w x l) (hk : Keep X w w') (hx : ∀ k, N k → ¬ X k) : ClsN N w' x l :=
  ⟨h.1.keep hk (fun h0 k hb => hx k (h.2 (fun e => h0 (by rw [e]; rfl)) k hb)), h.2⟩
theorem TabN.keep {N X : Nat → Prop} {w w' : World} {cs : List Value} {t : Tab} (h : TabN N w cs t) (hk : Keep X w w') (hx : ∀ k, N k → ¬ X k) : TabN N w' cs t := by
  obtain ⟨x, y, h1, h2, h3, h4, h5⟩ := h
  exact ⟨x, y, h1, h2.keep hk hx, h3.keep hk hx, h4, h5⟩
theorem IdxN.keep {N X : Nat → Prop} {w w' : World} {cs : List Value} {t : Idx} (h : IdxN N w cs t) (hk : Keep X w w') (hx : ∀ k, N k → ¬ X k) : IdxN N w' cs t := by
  obtain ⟨y, h1, h2, h3⟩ := h
  exact ⟨y, h1, h2.keep hk hx, h3⟩
theorem LstN.keep {α : Type} {R : World → List Value → α → Prop} {n : Nat} {N X : Nat → Prop} {w w' : World} {x : Value} {l : List α} (h : LstN R n N w x l) (hk : Keep X w w') (hx : ∀ k, N k → ¬ X k)
    (hR : ∀ r a, R w r a → R w' r a) : LstN R n N w' x l := by
  obtain ⟨M, h1, h2, h3, h4⟩ := h
  exact ⟨M, h1, h2.keep hk (fun h0 k hb => hx k (h4 (fun e => h0 (List.eq_nil_of_length_eq_zero (by rw [h1, e]; rfl))) k hb)), fun i r a p q => hR _ _ (h3 i r a p q), h4⟩
theorem CatN.keep {N X : Nat → Prop} {w w' : World} {cs : List Value} {C : Cat} (h : CatN N w cs C) (hk : Keep X w w') (hx : ∀ k, N k → ¬ X k) : CatN N w' cs C := by
  obtain ⟨x, y, h1, h2, h3, h4, h5⟩ := h
  exact ⟨x, y, h1, h2.keep hk hx (fun _ _ h => h.keep hk hx), h3.keep hk hx (fun _ _ h => h.keep hk hx), h4, h5⟩
theorem CatN.old {N : Nat → Prop} {w w' : World} {cs : List Value} {C : Cat} (h : CatN N w cs C) (hb : Below w.heap.size w w') : CatN N w' cs C :=
  h.keep (X := fun _ => False) (Keep.of_below hb) (fun _ _ e => e)
theorem TabN.old {N : Nat → Prop} {w w' : World} {cs : List Value} {C : Tab} (h : TabN N w cs C) (hb : Below w.heap.size w w') : TabN N w' cs C :=
  h.keep (X := fun _ => False) (Keep.of_below hb) (fun _ _ e => e)
theorem IdxN.old {N : Nat → Prop} {w w' : World} {cs : List Value} {C : Idx} (h : IdxN N w cs C) (hb : Below w.heap.size w w') : IdxN N w' cs C :=
  h.keep (X := fun _ => False) (Keep.of_below hb) (fun _ _ e => e)
theorem ZsN.old {N : Nat → Prop} {w w' : World} {x : Value} {l : List Int} (h : ZsN N w x l) (hb : Below w.heap.size w w') : ZsN N w' x l :=
  h.keep (X := fun _ => False) (Keep.of_below hb) (fun _ _ e => e)

theorem idx_str {P : Program} (t : TypeId) (ht : P.underlying t = some .string) (s : List UInt8) (k : Nat) (h : k < s.length) : ∀ W, (Instr.index t (.string ⟨s.toArray⟩) (.int .i64 (k : Int))).run P W = .ok (.int .u8 ((s[k].toNat : Nat) : Int)) W := by
  intro W
  rw [run_index_string W t _ _ _ ht, dif_pos ⟨by omega, by show (k : Int) < (s.length : Int); omega⟩]
  rfl
theorem size_str (s : List UInt8) : (⟨s.toArray⟩ : ByteArray).size = s.length := rfl
theorem ba_eq (a b : List UInt8) : ((⟨a.toArray⟩ : ByteArray).toList == (⟨b.toArray⟩ : ByteArray).toList) = (a == b) := by
  rw [ByteArray.toList_eq, ByteArray.toList_eq]

/-- The cells of a block. -/
theorem cell_in {w : World} {b : Nat} {cs : Array Value} {t : TypeId} (h : w.heap[b]? = some (.cells cs t (0, 0))) (i : Nat) (u : Value) (hi : cs[i]? = some u) : w.cell? ⟨b, i, none⟩ = some u := by
  simp only [World.cell?, h]; simpa using hi
theorem cl_cells {w : World} {x : Value} {l : List Col} (h : Rws 3 w x (l.map colRow)) : ∃ ao c, x = .slice ao l.length c ∧ l.length ≤ c ∧ c ≤ maxLen ∧ ∀ (k : Nat) d, l[k]? = some d → ∃ b off, ao = some ⟨b, off, none⟩ ∧
    w.cell? ⟨b, off + k * 3, none⟩ = some (.string ⟨d.name.toArray⟩) ∧ w.cell? ⟨b, off + k * 3 + 1, none⟩ = some (.int .i64 d.kind) ∧ w.cell? ⟨b, off + k * 3 + 2, none⟩ = some (.bool d.null) := by
  obtain ⟨ao, c, rfl, h1, h2⟩ := h.form
  rw [List.length_map] at h h1
  refine ⟨ao, c, by rw [List.length_map], h1, h2, fun k z hk => ?_⟩
  obtain ⟨b, off, rfl, h3⟩ := h.get (by decide) (k := k) (r := colRow z) (by rw [List.getElem?_map, hk]; rfl)
  exact ⟨b, off, rfl, h3 0 _ rfl, h3 1 _ rfl, h3 2 _ rfl⟩
theorem below_drewN (w : World) (n : Nat) : Below w.heap.size w (w.drewN n) := ⟨rfl, rfl, rfl, Nat.le_refl _, fun _ _ => rfl⟩
theorem below_step {w w1 w2 : World} (h : Below w.heap.size w w1) (h2 : Below w1.heap.size w1 w2) : Below w.heap.size w w2 := h.trans (h2.mono h.size)
theorem block_cell {w : World} {a : Addr} {v : Value} (h : w.cell? a = some v) : a.block < w.heap.size := World.block_lt_of_cell? w a h
end Go.Proofs.Ytafcbelkhhjcoaa
