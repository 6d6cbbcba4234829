/-
  PAGES: a map in memory; what stays where only some blocks may turn.
-/
import Derived.Test.YtcgnghkjkdkmmaaGr4
set_option linter.unusedVariables false
namespace Go.Proofs.Ytcgnghkjkdkmmaa
open Go.RowKit Go.Shelf

/-- All that lay lies, but for the blocks of X. -/
structure Keep (X : Nat → Prop) (w w' : World) : Prop where
  os : w'.os = w.os
  tape : w'.tape = w.tape
  output : w'.output = w.output
  size : w.heap.size ≤ w'.heap.size
  block : ∀ k, k < w.heap.size → ¬ X k → w'.heap[k]? = w.heap[k]?

theorem Keep.refl (X : Nat → Prop) (w : World) : Keep X w w := ⟨rfl, rfl, rfl, Nat.le_refl _, fun _ _ _ => rfl⟩
theorem Keep.trans {X : Nat → Prop} {a b c : World} (h : Keep X a b) (k : Keep X b c) : Keep X a c :=
  ⟨k.os.trans h.os, k.tape.trans h.tape, k.output.trans h.output, Nat.le_trans h.size k.size, fun i hi hn => (k.block i (Nat.lt_of_lt_of_le hi h.size) hn).trans (h.block i hi hn)⟩
theorem Keep.mono {X Y : Nat → Prop} {a b : World} (h : Keep X a b) (hxy : ∀ k, k < a.heap.size → X k → Y k) : Keep Y a b :=
  ⟨h.os, h.tape, h.output, h.size, fun i hi hn => h.block i hi (fun hx => hn (hxy i hi hx))⟩
theorem Keep.of_below {X : Nat → Prop} {w w' : World} (h : Below w.heap.size w w') : Keep X w w' := ⟨h.os, h.tape, h.output, h.size, fun k hk _ => h.block k hk⟩
theorem Keep.of_grown {X : Nat → Prop} {w w' : World} {row : Option Nat} (h : w.grownBy w' row) (hx : ∀ k, row = some k → X k) : Keep X w w' :=
  ⟨h.os, h.tape, h.output, h.size, fun k hk hn => h.block k hk (fun e => hn (hx k e.symm))⟩
theorem Keep.below {X : Nat → Prop} {w w' : World} {n : Nat} (h : Keep X w w') (hn : n ≤ w.heap.size) (hx : ∀ k, X k → n ≤ k) : Below n w w' :=
  ⟨h.os, h.tape, h.output, h.size, fun k hk => h.block k (Nat.lt_of_lt_of_le hk hn) (fun hx' => by have := hx k hx'; omega)⟩

theorem Rd.keep {X : Nat → Prop} {w w' : World} {x : Value} {l : List UInt8} (h : Rd w x l) (hk : Keep X w w') (hx : l ≠ [] → ∀ k, blk x = some k → ¬ X k) : Rd w' x l := by
  obtain ⟨ao, c, rfl, h1, h2, h3, h4⟩ := h
  refine ⟨ao, c, rfl, h1, h2, h3, fun a ha j u hu => ?_⟩
  subst ha
  have h6 := h4 a rfl j u hu
  have hlt := World.block_lt_of_cell? w _ h6
  rw [World.cell?_of_block (w := w) (a := a.add j) (hk.block _ hlt (by rw [add_block]; exact hx (fun e => by subst e; simp at hu) _ rfl))]
  exact h6
theorem Rws.keep {X : Nat → Prop} {size : Nat} {w w' : World} {x : Value} {L : List (List Value)} (h : Rws size w x L) (hk : Keep X w w') (hx : L ≠ [] → ∀ k, blk x = some k → ¬ X k) : Rws size w' x L := by
  obtain ⟨ao, c, rfl, h1, h2, h3, h5, h4⟩ := h
  refine ⟨ao, c, rfl, h1, h2, h3, h5, fun a ha j u hu => ?_⟩
  subst ha
  have h6 := h4 a rfl j u hu
  have hlt := World.block_lt_of_cell? w _ h6
  rw [World.cell?_of_block (w := w) (a := a.add j) (hk.block _ hlt (by rw [add_block]; exact hx (fun e => by subst e; simp at hu) _ rfl))]
  exact h6

/-- A pair's bytes lie in none of the blocks of X; a page, nor its pairs' bytes; pages. -/
def OffP (X : Nat → Prop) (m : Lp) : Prop := (m.key ≠ [] → ∀ a, m.ka = some a → ¬ X a.block) ∧ (m.val ≠ [] → ∀ a, m.va = some a → ¬ X a.block)
def OffG (X : Nat → Prop) (g : Pg) : Prop := (g.M ≠ [] → ∀ a, g.a = some a → ¬ X a.block) ∧ ∀ m ∈ g.M, OffP X m
def Off (X : Nat → Prop) (G : List Pg) : Prop := ∀ g ∈ G, OffG X g

theorem blk_of {ao : Option Addr} {n c k : Nat} (h : blk (.slice ao n c) = some k) : ∃ a, ao = some a ∧ a.block = k := by
  cases ao with
  | none => cases h
  | some a => exact ⟨a, rfl, by simpa [blk] using h⟩

theorem RdP.keep {X : Nat → Prop} {w w' : World} {m : Lp} (h : RdP w m) (hk : Keep X w w') (ho : OffP X m) : RdP w' m :=
  ⟨h.1.keep hk (fun hn k hb => by obtain ⟨a, e, rfl⟩ := blk_of hb; exact ho.1 hn a e), h.2.keep hk (fun hn k hb => by obtain ⟨a, e, rfl⟩ := blk_of hb; exact ho.2 hn a e)⟩
theorem Prs.keep {X : Nat → Prop} {w w' : World} {x : Value} {M : List Lp} (h : Prs w x M) (hk : Keep X w w') (hx : M ≠ [] → ∀ k, blk x = some k → ¬ X k) (ho : ∀ m ∈ M, OffP X m) : Prs w' x M :=
  ⟨h.1.keep hk (fun hn => hx (fun e => by subst e; exact hn rfl)), fun m hm => (h.2 m hm).keep hk (ho m hm)⟩
theorem RdG.keep {X : Nat → Prop} {w w' : World} {g : Pg} (h : RdG w g) (hk : Keep X w w') (ho : OffG X g) : RdG w' g :=
  Prs.keep h hk (fun hn k hb => by obtain ⟨a, e, rfl⟩ := blk_of hb; exact ho.1 hn a e) ho.2

theorem rd_block {w : World} {ao : Option Addr} {n c : Nat} {l : List UInt8} (h : Rd w (.slice ao n c) l) (hn : l ≠ []) : ∀ a, ao = some a → a.block < w.heap.size := by
  intro a ha
  subst ha
  obtain ⟨ao', c', he, h1, h2, h3, h4⟩ := h
  simp only [Value.slice.injEq] at he
  obtain ⟨rfl, rfl, rfl⟩ := he
  cases l with
  | nil => exact (hn rfl).elim
  | cons x l => have := World.block_lt_of_cell? w _ (h4 a rfl 0 _ rfl); rwa [add_block] at this
theorem rws_block {size : Nat} {w : World} {ao : Option Addr} {n c : Nat} {L : List (List Value)} (hs : 0 < size) (h : Rws size w (.slice ao n c) L) (hn : L ≠ []) : ∀ a, ao = some a → a.block < w.heap.size := by
  intro a ha
  cases L with
  | nil => exact (hn rfl).elim
  | cons r l =>
    have hr := h.wide r (by simp)
    obtain ⟨b, off, e, hc⟩ := h.get hs (k := 0) (r := r) rfl
    rw [ha] at e
    cases e
    have hr0 : r[0]? = some (r[0]'(by omega)) := List.getElem?_eq_getElem (by omega)
    have h9 := World.block_lt_of_cell? w _ (hc 0 _ hr0)
    exact h9
theorem RdP.offnew {X : Nat → Prop} {w : World} {m : Lp} (h : RdP w m) (hx : ∀ k, X k → w.heap.size ≤ k) : OffP X m :=
  ⟨fun hn a ha hX => by have := rd_block h.1 hn a ha; have := hx _ hX; omega, fun hn a ha hX => by have := rd_block h.2 hn a ha; have := hx _ hX; omega⟩
theorem RdG.offnew {X : Nat → Prop} {w : World} {g : Pg} (h : RdG w g) (hx : ∀ k, X k → w.heap.size ≤ k) : OffG X g :=
  ⟨fun hn a ha hX => by have := rws_block (by decide) h.1 (fun e => hn (List.map_eq_nil_iff.1 e)) a ha; have := hx _ hX; omega, fun m hm => (h.2 m hm).offnew hx⟩
theorem OffP.or {X Y : Nat → Prop} {m : Lp} (h : OffP X m) (k : OffP Y m) : OffP (fun b => X b ∨ Y b) m :=
  ⟨fun hn a ha hX => hX.elim (h.1 hn a ha) (k.1 hn a ha), fun hn a ha hX => hX.elim (h.2 hn a ha) (k.2 hn a ha)⟩
theorem OffP.mono {X Y : Nat → Prop} {m : Lp} (h : OffP X m) (hxy : ∀ k, Y k → X k) : OffP Y m := ⟨fun hn a ha hY => h.1 hn a ha (hxy _ hY), fun hn a ha hY => h.2 hn a ha (hxy _ hY)⟩
theorem OffG.mono {X Y : Nat → Prop} {g : Pg} (h : OffG X g) (hxy : ∀ k, Y k → X k) : OffG Y g := ⟨fun hn a ha hY => h.1 hn a ha (hxy _ hY), fun m hm => (h.2 m hm).mono hxy⟩
theorem OffG.or {X Y : Nat → Prop} {g : Pg} (h : OffG X g) (k : OffG Y g) : OffG (fun b => X b ∨ Y b) g :=
  ⟨fun hn a ha hX => hX.elim (h.1 hn a ha) (k.1 hn a ha), fun m hm => (h.2 m hm).or (k.2 m hm)⟩

/-- The blocks of a map that may turn. -/
def MX (mb : Nat) (v : Value) : Nat → Prop := fun k => k = mb ∨ v.ownBlock = some k

/-- A map: its block, its list of pages (a row of its own), the pages. -/
structure Mp (base : Nat) (w : World) (mb : Nat) (v : Value) (G : List Pg) : Prop where
  lo : base ≤ mb
  hd : w.heap[mb]? = some (.cells #[v] 65 (0, 0))
  own : w.ownsRow base 29 1 v G.length (G.map sv)
  ne : v.ownBlock ≠ some mb
  each : ∀ g ∈ G, RdG w g
  off : Off (MX mb v) G

theorem flat_sv (G : List Pg) : (G.map rowG).flatten = G.map sv := by
  induction G with
  | nil => rfl
  | cons g l ih => simp [rowG, sv, ih]

theorem Mp.pgs {base : Nat} {w : World} {mb : Nat} {v : Value} {G : List Pg} (h : Mp base w mb v G) : Pgs w v G :=
  ⟨Rws.own (base := base) (e := 29) (by rw [List.length_map, flat_sv]; exact h.own) (wideG G), h.each⟩

theorem Mp.base_le {base : Nat} {w : World} {mb : Nat} {v : Value} {G : List Pg} (h : Mp base w mb v G) : base ≤ w.heap.size := Nat.le_trans h.lo (Nat.le_of_lt (lt_of_block h.hd))

/-- Behind what leaves the map's blocks, its pages and their bytes alone. -/
theorem Mp.keep {X : Nat → Prop} {base : Nat} {w w' : World} {mb : Nat} {v : Value} {G : List Pg} (h : Mp base w mb v G) (hk : Keep X w w') (h1 : ∀ k, MX mb v k → ¬ X k) (h2 : Off X G) : Mp base w' mb v G := by
  refine ⟨h.lo, (hk.block mb (lt_of_block h.hd) (h1 mb (.inl rfl))).trans h.hd, ?_, h.ne, fun g hg => (h.each g hg).keep hk (h2 g hg), h.off⟩
  obtain ⟨q1, q2⟩ := h.own
  rcases q2 with q2 | ⟨g, cap, cur, rfl, hb, hg, r⟩
  · exact ⟨q1, .inl q2⟩
  · exact ⟨q1, .inr ⟨g, cap, cur, rfl, hb, (hk.block g (lt_of_block hg) (h1 g (.inr rfl))).trans hg, r⟩⟩
theorem Mp.old {base : Nat} {w w' : World} {mb : Nat} {v : Value} {G : List Pg} (h : Mp base w mb v G) (hb : Below w.heap.size w w') : Mp base w' mb v G :=
  h.keep (X := fun _ => False) (Keep.of_below hb) (fun _ _ h => h) (fun _ _ => ⟨fun _ _ _ h => h, fun _ _ => ⟨fun _ _ _ h => h, fun _ _ _ h => h⟩⟩)

/-- What a map's pages are, as they should be. -/
structure Fit (G : List Pg) : Prop where
  ok : OkL (mls G)
  srt : Srt (mls G).flatten
  len : (mls G).flatten.length ≤ 100000

theorem len_flat {α : Type} (L : List (List α)) (h : ∀ g ∈ L, 1 ≤ g.length) : L.length ≤ L.flatten.length := by
  induction L with
  | nil => simp
  | cons g l ih =>
    have h1 := h g (by simp)
    have h2 := ih (fun x hx => h x (by simp [hx]))
    rw [List.flatten_cons, List.length_append, List.length_cons]
    omega

theorem Fit.glen {G : List Pg} (h : Fit G) : G.length ≤ 100000 := by
  have := len_flat (mls G) (fun g hg => (h.ok g hg).1)
  rw [mls_len] at this
  have := h.len
  omega
theorem mls_mem {G : List Pg} {g : Pg} (h : g ∈ G) : g.M ∈ mls G := List.mem_map.2 ⟨g, h, rfl⟩
theorem Fit.ord {G : List Pg} (h : Fit G) : Ord G :=
  ⟨fun g hg e => by have := (h.ok _ (mls_mem hg)).1; rw [e] at this; simp at this, h.srt, by have := h.glen; omega, fun g hg => by have := (h.ok _ (mls_mem hg)).2.1; omega⟩
theorem Fit.page {G : List Pg} (h : Fit G) (p : Nat) : (pgAt (mls G) p).length ≤ 8 := by
  unfold pgAt
  cases hq : (mls G)[p]? with
  | none => simp
  | some g => exact (h.ok g (List.mem_of_getElem? hq)).2.1
end Go.Proofs.Ytcgnghkjkdkmmaa
