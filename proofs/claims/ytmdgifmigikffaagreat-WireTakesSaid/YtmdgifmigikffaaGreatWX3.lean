import Derived.Deep.Slices
import Derived.Deep.AppendLies
import Derived.Test.YtmdgifmigikffaaGreatRows
import Derived.WalkKit
import Derived.WalkSpells
import Derived.WalkLawsBesides
import Derived.Laws.AppendOwnNone
import Derived.ProofKit
import Derived.OpenShut
import Derived.ShutString
import Derived.ChangeOld
import Derived.Below
import Derived.SizedLaws
import Derived.Deep.Strs
import Derived.Deep.RegionHeld3
import Derived.Deep.RegionHeld
import Derived.Lib.ConvBytes
import Derived.Laws.AppendOwn
import Derived.Deep.CutRange
import Derived.Deep.MidRow
import Derived.Great.Walk
import Derived.Test.YtmdgifmigikffaaGreatWX1
import Derived.Test.YtmdgifmigikffaaGreatWX2
set_option linter.unusedVariables false
set_option linter.unusedSimpArgs false
set_option maxRecDepth 100000
namespace Go.Proofs.YtmdgifmigikffaaGreat
open Go.RowKit
def Wide (size : Nat) (L : List (List Value)) : Prop := ∀ r ∈ L, r.length = size ∧ ∀ u ∈ r, u.oneCell' = true
theorem Wide.sub {size : Nat} {a b : List (List Value)} (h : Wide size a) (k : ∀ r ∈ b, r ∈ a) : Wide size b := fun r hr => h r (k r hr)
theorem Wide.one {size : Nat} {L : List (List Value)} (h : Wide size L) : ∀ u ∈ L.flatten, u.oneCell' = true := fun u hu => by
 obtain ⟨r, hr, hu⟩ := List.mem_flatten.1 hu
 exact (h r hr).2 u hu
theorem Wide.len {size : Nat} {L : List (List Value)} (h : Wide size L) : L.flatten.length = L.length * size := by
 induction L with
 | nil => simp
 | cons r L ih =>
  have h1 := (h r (by simp)).1
  have h2 := ih (h.sub fun x hx => by simp [hx])
  rw [List.flatten_cons, List.length_append, h1, h2, List.length_cons, Nat.add_mul]
  omega
theorem Wide.at {size : Nat} {L : List (List Value)} (h : Wide size L) : ∀ {k : Nat} {r : List Value}, L[k]? = some r → ∀ {j : Nat} {u : Value}, r[j]? = some u → L.flatten[k * size + j]? = some u := by
 induction L with
 | nil => intro k r hk; simp at hk
 | cons q L ih =>
  intro k r hk j u hj
  have hq := (h q (by simp)).1
  cases k with
  | zero =>
   simp at hk
   subst hk
   have hjl : j < q.length := (List.getElem?_eq_some_iff.1 hj).1
   rw [Nat.zero_mul, Nat.zero_add, List.flatten_cons, List.getElem?_append_left hjl]
   exact hj
  | succ k =>
   have hk' : L[k]? = some r := by simpa using hk
   have h3 := ih (h.sub fun x hx => by simp [hx]) hk' hj
   rw [List.flatten_cons, List.getElem?_append_right (by rw [hq, Nat.add_mul]; omega)]
   have e : (k + 1) * size + j - q.length = k * size + j := by rw [hq, Nat.add_mul]; omega
   rw [e]
   exact h3
def Rws (size : Nat) (w : World) (x : Value) (L : List (List Value)) : Prop :=
 ∃ (ao : Option Addr) (c : Nat), x = .slice ao L.length c ∧ L.length ≤ c ∧ c ≤ maxLen ∧ (ao = none → c = 0) ∧ Wide size L ∧
  ∀ a, ao = some a → ∀ (j : Nat) u, L.flatten[j]? = some u → w.cell? (a.add j) = some u
theorem Rws.nil (size : Nat) (w : World) : Rws size w (.slice none 0 0) [] := ⟨none, 0, rfl, by simp, by simp, (fun _ => rfl), (fun r hr => by cases hr), (fun a h => by cases h)⟩
theorem Rws.wide {size : Nat} {w : World} {x : Value} {L : List (List Value)} (h : Rws size w x L) : Wide size L := by
 obtain ⟨_, _, _, _, _, _, h5, _⟩ := h
 exact h5
theorem Rws.kept {size : Nat} {w w' : World} {x : Value} {L : List (List Value)} {row : Option Nat} (h : Rws size w x L) (hg : w.grownBy w' row) (hne : blk x = none ∨ blk x ≠ row) : Rws size w' x L := by
 obtain ⟨ao, c, rfl, h1, h2, h3, h5, h4⟩ := h
 refine ⟨ao, c, rfl, h1, h2, h3, h5, fun a ha j u hu => ?_⟩
 subst ha
 have h6 := h4 a rfl j u hu
 have hlt := World.block_lt_of_cell? w _ h6
 rw [World.cell?_of_block (w := w) (a := a.add j) (hg.block _ hlt (by rw [add_block]; simpa [blk] using hne))]
 exact h6
theorem Rws.old {size : Nat} {w w' : World} {x : Value} {L : List (List Value)} (h : Rws size w x L) (hb : Below w.heap.size w w') : Rws size w' x L := by
 obtain ⟨ao, c, rfl, h1, h2, h3, h5, h4⟩ := h
 refine ⟨ao, c, rfl, h1, h2, h3, h5, fun a ha j u hu => ?_⟩
 subst ha
 have h6 := h4 a rfl j u hu
 rw [hb.cell (p := a.add j) (World.block_lt_of_cell? w _ h6)]
 exact h6
theorem Rws.len {P : Program} {size : Nat} {w : World} {x : Value} {L : List (List Value)} (h : Rws size w x L) (t e ty : TypeId) (ht : P.underlying t = some (.slice e)) :
 ∀ W, (Builtin.len_ #[t] ty #[x]).run P W = .ok (goInt L.length) W := by
 obtain ⟨ao, c, rfl, h1, h2, h3, _⟩ := h
 have ht' : P.underlying t = some (.slice (P.elem t)) := by simp [Program.elem, ht]
 exact fun W => run_len_slice W t ty _ _ _ ht'
theorem Rws.form {size : Nat} {w : World} {x : Value} {L : List (List Value)} (h : Rws size w x L) : ∃ ao c, x = .slice ao L.length c ∧ L.length ≤ c ∧ c ≤ maxLen := by
 obtain ⟨ao, c, rfl, h1, h2, h3, _⟩ := h
 exact ⟨ao, c, rfl, h1, h2⟩
theorem Rws.get {size : Nat} {w : World} {ao : Option Addr} {n c : Nat} {L : List (List Value)} (h : Rws size w (.slice ao n c) L) (hs : 0 < size) {k : Nat} {r : List Value} (hk : L[k]? = some r) :
 ∃ b off, ao = some ⟨b, off, none⟩ ∧ ∀ (j : Nat) u, r[j]? = some u → w.cell? ⟨b, off + k * size + j, none⟩ = some u := by
 obtain ⟨ao', c', he, h1, h2, h3, h5, h4⟩ := h
 simp only [Value.slice.injEq] at he
 obtain ⟨rfl, rfl, rfl⟩ := he
 have hkl : k < L.length := (List.getElem?_eq_some_iff.1 hk).1
 have hr := h5 r (List.mem_of_getElem? hk)
 cases ao with
 | none => have := h3 rfl; omega
 | some a =>
  obtain ⟨b, off, spot⟩ := a
  have hL0 : L[0]? = some (L[0]'(by omega)) := List.getElem?_eq_getElem (by omega)
  have hr0 := h5 _ (List.mem_of_getElem? hL0)
  have hu0 : (L[0]'(by omega))[0]? = some ((L[0]'(by omega))[0]'(by omega)) := List.getElem?_eq_getElem (by omega)
  have h0 := h4 _ rfl _ _ (h5.at hL0 hu0)
  have hspot : spot = none := by
   rw [Nat.zero_mul, Nat.zero_add] at h0
   simpa [Addr.add] using World.cell?_spot h0
  subst hspot
  refine ⟨b, off, rfl, fun j u hj => ?_⟩
  have := h4 _ rfl _ _ (h5.at hk hj)
  rw [WideShapes.add_plain, ← Nat.add_assoc] at this
  exact this
theorem Rws.own {size : Nat} {w : World} {base : Nat} {e : TypeId} {x : Value} {L : List (List Value)} (h : w.ownsRow base e size x L.length L.flatten) (hw : Wide size L) : Rws size w x L := by
 obtain ⟨h1, h2⟩ := h
 rcases h2 with ⟨rfl, hn⟩ | ⟨g, cap, cur, rfl, hb, hg, hn, hc, hs, ht⟩
 · obtain rfl : L = [] := List.eq_nil_of_length_eq_zero hn
   exact Rws.nil size w
 · refine ⟨some ⟨g, 0, none⟩, cap, rfl, hn, hc, (fun h => by cases h), hw, fun a ha => ?_⟩
   cases ha
   intro j u hu
   rw [WideShapes.add_plain, Nat.zero_add, cell_of_row w g j cur e (0, 0) hg]
   rw [← ht, List.getElem?_take] at hu
   split at hu
   · simpa using hu
   · cases hu
theorem Rws.take {size : Nat} {w : World} {ao : Option Addr} {m c : Nat} {L : List (List Value)} (h : Rws size w (.slice ao m c) L) (n : Nat) (hn : n ≤ L.length) : Rws size w (.slice ao n c) (L.take n) := by
 obtain ⟨ao', c', he, h1, h2, h3, h5, h4⟩ := h
 simp only [Value.slice.injEq] at he
 obtain ⟨rfl, rfl, rfl⟩ := he
 have hlen : (L.take n).length = n := by rw [List.length_take]; omega
 refine ⟨ao, c, by rw [hlen], by rw [hlen]; omega, h2, h3, h5.sub fun r hr => List.mem_of_mem_take hr, fun a ha j u hu => h4 a ha j u ?_⟩
 have e : L.flatten = (L.take n).flatten ++ (L.drop n).flatten := by rw [← List.flatten_append, List.take_append_drop]
 rw [e, List.getElem?_append_left]
 · exact hu
 · exact (List.getElem?_eq_some_iff.1 hu).1
theorem Rws.head {P : Program} {size : Nat} {w : World} {x : Value} {L : List (List Value)} (h : Rws size w x L) (t e : TypeId) (ht : P.underlying t = some (.slice e)) (hinfo : (P.info? e).map (fun i => i.size) = some size) (n : Nat) (hn : n ≤ L.length) :
 ∃ (ao : Option Addr) (c : Nat), (∀ k W, (Instr.slice t x none (some (.int k (n : Int))) none).run P W = .ok (.slice ao n c) W) ∧ Rws size w (.slice ao n c) (L.take n) ∧ (∀ k, blk (.slice ao n c) = some k → blk x = some k) := by
 obtain ⟨i0, hi, hz1⟩ : ∃ i, P.info? e = some i ∧ i.size = size := by
  cases hq : P.info? e with
  | none => rw [hq] at hinfo; cases hinfo
  | some i => rw [hq] at hinfo; exact ⟨i, rfl, by simpa using hinfo⟩
 have h' := h
 obtain ⟨ao, c, rfl, h1, h2, h3, h5, h4⟩ := h
 have ht' : P.underlying t = some (.slice (P.elem t)) := by simp [Program.elem, ht]
 have he : P.elem t = e := by simp [Program.elem, ht]
 have hs : ∀ W, (sizeOf e).run P W = .ok size W := fun W => by simp [sizeOf, typeInfo, hi, hz1]
 have hsame : (if c = 0 then ao else ao.map (·.add (0 * size))) = ao := by
  split
  · rfl
  · cases ao <;> simp [Addr.add]
 refine ⟨ao, c, fun k W => ?_, h'.take n hn, fun k hk => by cases ao with | none => simp [blk] at hk | some a => simpa [blk] using hk⟩
 rw [run_slice_h W t _ _ _ ht' k _ (by omega) (by omega), he, hs]
 simp only [Result.andThen, sliced]
 rw [hsame]
 simp
theorem Rws.cut {P : Program} {size : Nat} {w : World} {x : Value} {L : List (List Value)} (h : Rws size w x L) (hsz : 0 < size) (t e : TypeId) (ht : P.underlying t = some (.slice e)) (hinfo : (P.info? e).map (fun i => i.size) = some size) (n : Nat) (hn : n ≤ L.length) :
 ∃ (ao : Option Addr) (c : Nat), (∀ W, (Instr.slice t x (some (.int .i64 (n : Int))) none none).run P W = .ok (.slice ao (L.length - n) c) W) ∧ Rws size w (.slice ao (L.length - n) c) (L.drop n) ∧ (∀ k, blk (.slice ao (L.length - n) c) = some k → blk x = some k) := by
 obtain ⟨i0, hi, hz1⟩ : ∃ i, P.info? e = some i ∧ i.size = size := by
  cases hq : P.info? e with
  | none => rw [hq] at hinfo; cases hinfo
  | some i => rw [hq] at hinfo; exact ⟨i, rfl, by simpa using hinfo⟩
 have h0 := h
 obtain ⟨ao, c, rfl, h1, h2, h3, h5, h4⟩ := h
 have ht' : P.underlying t = some (.slice (P.elem t)) := by simp [Program.elem, ht]
 have he : P.elem t = e := by simp [Program.elem, ht]
 have hs : ∀ W, (sizeOf e).run P W = .ok size W := fun W => by simp [sizeOf, typeInfo, hi, hz1]
 have hlen : (L.drop n).length = L.length - n := List.length_drop
 refine ⟨if c = n then ao else ao.map (·.add (n * size)), c - n, fun W => ?_, ?_, ?_⟩
 · rw [run_slice_l W t _ _ _ ht' .i64 _ (by omega) (by omega), he, hs]
   simp [Result.andThen, sliced]
 · refine ⟨_, _, by rw [hlen], by rw [hlen]; omega, by omega, ?_, h5.sub fun r hr => List.mem_of_mem_drop hr, ?_⟩
   · intro hne
     split at hne
     · omega
     · cases ao with
       | none => have := h3 rfl; omega
       | some a => simp at hne
   · intro a ha j u hu
     have hjl : j < (L.drop n).flatten.length := (List.getElem?_eq_some_iff.1 hu).1
     have hwd : Wide size (L.drop n) := h5.sub fun r hr => List.mem_of_mem_drop hr
     have hpos : 0 < (L.drop n).length := by
      rcases Nat.eq_zero_or_pos (L.drop n).length with h | h
      · rw [List.eq_nil_of_length_eq_zero h] at hjl; simp at hjl
      · exact h
     rw [if_neg (by omega)] at ha
     cases ao with
     | none => simp at ha
     | some a0 =>
      simp at ha
      subst ha
      have e : L.flatten = (L.take n).flatten ++ (L.drop n).flatten := by rw [← List.flatten_append, List.take_append_drop]
      have hwt : Wide size (L.take n) := h5.sub fun r hr => List.mem_of_mem_take hr
      have hlt : (L.take n).flatten.length = n * size := by rw [hwt.len, List.length_take]; congr 1; omega
      have h7 : L.flatten[n * size + j]? = some u := by
       rw [e, List.getElem?_append_right (by omega), hlt]
       rw [show n * size + j - n * size = j by omega]
       exact hu
      have h6 := h4 a0 rfl _ _ h7
      rw [Deep.add_add]
      exact h6
 · intro k hk
   split at hk
   · cases ao with
     | none => simp [blk] at hk
     | some a => simpa [blk] using hk
   · cases ao with
     | none => simp [blk] at hk
     | some a => simpa [blk, add_block] using hk
theorem Rws.one {w : World} {n size : Nat} {r : List Value} {t : TypeId} (h : n = w.heap.size) (hr : r.length = size ∧ ∀ u ∈ r, u.oneCell' = true) : Rws size (w.alloc (.cells r.toArray t)) (.slice (some ⟨n, 0, none⟩) 1 1) [r] := by
 subst h
 refine ⟨some ⟨w.heap.size, 0, none⟩, 1, rfl, by simp, by unfold maxLen; simp, (fun h => by cases h), (fun q hq => by simp at hq; subst hq; exact hr), fun a ha j u hu => ?_⟩
 cases ha
 rw [WideShapes.add_plain, Nat.zero_add, cell_of_row _ w.heap.size j r.toArray t (0, 0) (heap_alloc_new w _)]
 simpa using hu
end Go.Proofs.YtmdgifmigikffaaGreat
namespace Go.Proofs.YtmdgifmigikffaaGreat
open Go.ChangeShapes Go.WideShapes Go.ChangeAt Go.RowKit
def IsRow (k : IntKind) (w : World) (a : Option Addr) (len cap : Nat) (zs : List Int) : Prop :=
 (a = none ∧ len = 0 ∧ cap = 0 ∧ zs = []) ∨
 ∃ x, a = some x ∧ len ≤ cap ∧ cap ≤ maxLen ∧ zs.length = cap ∧ (∀ i, i < zs.length → w.cell? (x.add i) = some (.int k (zs.getD i 0))) ∧ ∀ n ∈ zs, (Lit.int k n).wf = true
theorem isRow_open {H : Type} {enc : TypeId × Value → H} {P : Program} {W : World} {t e : TypeId} {k : IntKind} {a : Option Addr} {len cap : Nat} {d : DataW H} {p : List MemPlace}
 (ht : P.underlying t = some (.slice e)) (he : P.underlying e = some (.int k)) (hc : P.cellsOf e = 1) (h : DataW.Trod enc P W 0 (fun _ => true) true t (.slice a len cap) d p) :
 ∃ zs, IsRow k W a len cap zs ∧ ∀ {ts : List TypeId} {ds : List (DataW H)}, (DataW.weightsEach P ts ds).all (· ≤ reachBytes) = true → ∀ {j : Nat}, ts[j]? = some t → ds[j]? = some d → cap * P.bytesOf e ≤ 140737488351232 := by
 obtain ⟨fuel, hf⟩ := h
 rcases open_ints ht he hc hf with ⟨hcs, hx⟩ | ⟨x, l, c, zs, hcs, _, hl, hm, hz, hx, hcell, hwz⟩
 · simp [Value.cells] at hcs
   obtain ⟨rfl, rfl, rfl⟩ := hcs
   exact ⟨[], .inl ⟨rfl, rfl, rfl, rfl⟩, fun _ _ _ _ => by omega⟩
 · simp [Value.cells] at hcs
   obtain ⟨rfl, rfl, rfl⟩ := hcs
   have hz' : zs.length = cap := by simpa using hz
   refine ⟨zs, .inr ⟨_, rfl, hl, hm, hz', hcell, hwz⟩, fun {ts ds} hs {j} h1 h2 => ?_⟩
   simp only [Prod.mk.injEq] at hx
   rw [hx.1] at h2
   have := sized_slice hs h1 h2 ht
   simp only [lits, List.length_map, List.length_take, List.length_drop] at this
   have e1 : min len zs.length + (zs.length - len) = cap := by omega
   rw [e1] at this
   exact this
theorem rd_of_row {w : World} {a : Option Addr} {len cap : Nat} {zs : List Int} (h : IsRow .u8 w a len cap zs) : ∃ l : List UInt8, l.length = len ∧ Rd w (.slice a len cap) l := by
 rcases h with ⟨rfl, rfl, rfl, rfl⟩ | ⟨x, rfl, hl, hm, hz, hc, hw⟩
 · exact ⟨[], rfl, Rd.nil w⟩
 · have hlen : ((zs.take len).map fun n => UInt8.ofNat n.toNat).length = len := by simp; omega
   refine ⟨(zs.take len).map fun n => UInt8.ofNat n.toNat, hlen, some x, cap, by rw [hlen], by rw [hlen]; exact hl, hm, (fun h => by cases h), fun a ha j u hu => ?_⟩
   cases ha
   have hj : j < len := by
    have := (List.getElem?_eq_some_iff.1 hu).1
    rw [List.length_map] at this
    omega
   have hjz : j < zs.length := by omega
   rw [hc j hjz]
   have hwj := hw zs[j] (List.getElem_mem hjz)
   have hb := bounds_u8 hwj
   rw [List.map_map, List.getElem?_map, List.getElem?_take_of_lt hj, List.getElem?_eq_getElem hjz] at hu
   simp only [Option.map_some, Option.some.injEq, Function.comp_apply] at hu
   rw [← hu, List.getD_eq_getElem?_getD, List.getElem?_eq_getElem hjz, Option.getD_some]
   unfold bv
   rw [UInt8.toNat_ofNat']
   have e : zs[j] = ((zs[j].toNat % 2 ^ 8 : Nat) : Int) := by omega
   rw [← e]
end Go.Proofs.YtmdgifmigikffaaGreat
namespace Go.Proofs.YtmdgifmigikffaaGreat
open Go.RowKit Go.ChangeShapes Go.WideShapes Go.ChangeAt Go.Deep
inductive Sh where
 | num
 | int
 | bool
 | data
 | name
 | list (s : Sh)
 | nil
 | cons (s r : Sh)
def Sh.wid : Sh → Nat
 | .nil => 0
 | .cons s r => s.wid + r.wid
 | _ => 1
def Enc (W : World) : Sh → List Value → List UInt8 → Prop
 | .num, cs, bs => ∃ n : Nat, n < 18446744073709551616 ∧ cs = [.int .u64 (n : Int)] ∧ bs = numL n
 | .int, cs, bs => ∃ z : Int, (Lit.int .i64 z).wf = true ∧ cs = [.int .i64 z] ∧ bs = numL (zig z)
 | .bool, cs, bs => ∃ b : Bool, cs = [.bool b] ∧ bs = numL (if b then 1 else 0)
 | .data, cs, bs => ∃ x l, cs = [x] ∧ x.oneCell' = true ∧ Rd W x l ∧ l.length ≤ 1048576 ∧ bs = textL l
 | .name, cs, bs => ∃ l : List UInt8, cs = [.string ⟨l.toArray⟩] ∧ l.length ≤ 1048576 ∧ bs = textL l
 | .list s, cs, bs => ∃ (a : Option Addr) (c : Nat) (M : List (List Value × List UInt8)), cs = [.slice a M.length c] ∧ Rws s.wid W (.slice a M.length c) (M.map (·.1)) ∧ (∀ m ∈ M, Enc W s m.1 m.2) ∧ M.length ≤ 1048576 ∧ bs = numL M.length ++ (M.map (·.2)).flatten
 | .nil, cs, bs => cs = [] ∧ bs = []
 | .cons s r, cs, bs => ∃ c1 c2 b1 b2, cs = c1 ++ c2 ∧ bs = b1 ++ b2 ∧ Enc W s c1 b1 ∧ Enc W r c2 b2
theorem Enc.old {W W' : World} (hb : Below W.heap.size W W') : ∀ (s : Sh) {cs : List Value} {bs : List UInt8}, Enc W s cs bs → Enc W' s cs bs
 | .num, cs, bs, h => h
 | .int, cs, bs, h => h
 | .bool, cs, bs, h => h
 | .data, cs, bs, h => by
  obtain ⟨x, l, h1, h2, h3, h4⟩ := h
  exact ⟨x, l, h1, h2, h3.old hb, h4⟩
 | .name, cs, bs, h => h
 | .list s, cs, bs, h => by
  obtain ⟨a, c, M, h1, h2, h3, h4⟩ := h
  exact ⟨a, c, M, h1, h2.old hb, fun m hm => Enc.old hb s (h3 m hm), h4⟩
 | .nil, cs, bs, h => h
 | .cons s r, cs, bs, h => by
  obtain ⟨c1, c2, b1, b2, h1, h2, h3, h4⟩ := h
  exact ⟨c1, c2, b1, b2, h1, h2, Enc.old hb s h3, Enc.old hb r h4⟩
theorem Enc.wide {W : World} : ∀ (s : Sh) {cs : List Value} {bs : List UInt8}, Enc W s cs bs → cs.length = s.wid ∧ ∀ u ∈ cs, u.oneCell' = true
 | .num, cs, bs, h => by obtain ⟨n, _, rfl, _⟩ := h; exact ⟨rfl, fun u hu => by simp at hu; subst hu; rfl⟩
 | .int, cs, bs, h => by obtain ⟨n, _, rfl, _⟩ := h; exact ⟨rfl, fun u hu => by simp at hu; subst hu; rfl⟩
 | .bool, cs, bs, h => by obtain ⟨n, rfl, _⟩ := h; exact ⟨rfl, fun u hu => by simp at hu; subst hu; rfl⟩
 | .data, cs, bs, h => by obtain ⟨x, l, rfl, h2, _⟩ := h; exact ⟨rfl, fun u hu => by simp at hu; subst hu; exact h2⟩
 | .name, cs, bs, h => by obtain ⟨n, rfl, _⟩ := h; exact ⟨rfl, fun u hu => by simp at hu; subst hu; rfl⟩
 | .list s, cs, bs, h => by obtain ⟨a, c, M, rfl, _⟩ := h; exact ⟨rfl, fun u hu => by simp at hu; subst hu; rfl⟩
 | .nil, cs, bs, h => by obtain ⟨rfl, _⟩ := h; exact ⟨rfl, fun u hu => by cases hu⟩
 | .cons s r, cs, bs, h => by
  obtain ⟨c1, c2, b1, b2, rfl, _, h3, h4⟩ := h
  obtain ⟨p1, p2⟩ := Enc.wide s h3
  obtain ⟨q1, q2⟩ := Enc.wide r h4
  refine ⟨by rw [List.length_append, p1, q1]; rfl, fun u hu => ?_⟩
  rcases List.mem_append.1 hu with hu | hu
  · exact p2 u hu
  · exact q2 u hu
variable {H : Type} {enc : TypeId × Value → H} {W : World}
end Go.Proofs.YtmdgifmigikffaaGreat
namespace Go.Proofs.YtmdgifmigikffaaGreat
open Go.RowKit
structure Keep (X : Nat → Prop) (w w' : World) : Prop where
 os : w'.os = w.os
 tape : w'.tape = w.tape
 output : w'.output = w.output
 size : w.heap.size ≤ w'.heap.size
 block : ∀ k, k < w.heap.size → ¬ X k → w'.heap[k]? = w.heap[k]?
theorem Keep.refl (X : Nat → Prop) (w : World) : Keep X w w := ⟨rfl, rfl, rfl, Nat.le_refl _, fun _ _ _ => rfl⟩
theorem Keep.trans {X : Nat → Prop} {a b c : World} (h : Keep X a b) (k : Keep X b c) : Keep X a c :=
 ⟨k.os.trans h.os, k.tape.trans h.tape, k.output.trans h.output, Nat.le_trans h.size k.size, fun i hi hn => (k.block i (Nat.lt_of_lt_of_le hi h.size) hn).trans (h.block i hi hn)⟩
theorem Keep.trans2 {X Y : Nat → Prop} {a b c : World} (h : Keep X a b) (k : Keep Y b c) (hy : ∀ i, Y i → X i ∨ a.heap.size ≤ i) : Keep X a c :=
 ⟨k.os.trans h.os, k.tape.trans h.tape, k.output.trans h.output, Nat.le_trans h.size k.size, fun i hi hn => (k.block i (Nat.lt_of_lt_of_le hi h.size) (fun e => (hy i e).elim hn (by omega))).trans (h.block i hi hn)⟩
theorem Keep.mono {X Y : Nat → Prop} {a b : World} (h : Keep X a b) (hxy : ∀ k, k < a.heap.size → X k → Y k) : Keep Y a b :=
 ⟨h.os, h.tape, h.output, h.size, fun i hi hn => h.block i hi (fun hx => hn (hxy i hi hx))⟩
theorem Keep.of_below {X : Nat → Prop} {w w' : World} (h : Below w.heap.size w w') : Keep X w w' := ⟨h.os, h.tape, h.output, h.size, fun k hk _ => h.block k hk⟩
theorem Keep.of_grown {X : Nat → Prop} {w w' : World} {row : Option Nat} (h : w.grownBy w' row) (hx : ∀ k, row = some k → X k) : Keep X w w' :=
 ⟨h.os, h.tape, h.output, h.size, fun k hk hn => h.block k hk (fun e => hn (hx k e.symm))⟩
theorem Keep.below {X : Nat → Prop} {w w' : World} {n : Nat} (h : Keep X w w') (hn : n ≤ w.heap.size) (hx : ∀ k, X k → n ≤ k) : Below n w w' :=
 ⟨h.os, h.tape, h.output, h.size, fun k hk => h.block k (Nat.lt_of_lt_of_le hk hn) (fun hx' => by have := hx k hx'; omega)⟩
theorem Keep.set {X : Nat → Prop} (w : World) (a : Addr) (v : Value) (hx : X a.block) : Keep X w (w.setCell a v) := Keep.of_grown (grown_set w a v) (fun k e => by cases e; exact hx)
theorem own_keep {X : Nat → Prop} {w w' : World} {base : Nat} {e : TypeId} {size : Nat} {v : Value} {n : Nat} {xs : List Value} (h : w.ownsRow base e size v n xs) (hk : Keep X w w') (hx : ∀ k, v.ownBlock = some k → ¬ X k) : w'.ownsRow base e size v n xs :=
 ⟨h.1, h.2.imp id fun ⟨g, cap, cur, a, b, c, d⟩ => ⟨g, cap, cur, a, b, by rw [hk.block g (lt_of_block c) (hx g (by rw [a]; rfl))]; exact c, d⟩⟩
theorem Rd.keep {X : Nat → Prop} {w w' : World} {x : Value} {l : List UInt8} (h : Rd w x l) (hk : Keep X w w') (hx : l ≠ [] → ∀ k, blk x = some k → ¬ X k) : Rd w' x l := by
 obtain ⟨ao, c, rfl, h1, h2, h3, h4⟩ := h
 refine ⟨ao, c, rfl, h1, h2, h3, fun a ha j u hu => ?_⟩
 subst ha
 have h6 := h4 a rfl j u hu
 have hlt := World.block_lt_of_cell? w _ h6
 rw [World.cell?_of_block (w := w) (a := a.add j) (hk.block _ hlt (by rw [add_block]; exact hx (fun e => by subst e; simp at hu) _ rfl))]
 exact h6
theorem Rws.keep {X : Nat → Prop} {size : Nat} {w w' : World} {x : Value} {L : List (List Value)} (h : Rws size w x L) (hk : Keep X w w') (hx : L ≠ [] → ∀ k, blk x = some k → ¬ X k) : Rws size w' x L := by
 obtain ⟨ao, c, rfl, h1, h2, h3, h5, h4⟩ := h
 refine ⟨ao, c, rfl, h1, h2, h3, h5, fun a ha j u hu => ?_⟩
 subst ha
 have h6 := h4 a rfl j u hu
 have hlt := World.block_lt_of_cell? w _ h6
 rw [World.cell?_of_block (w := w) (a := a.add j) (hk.block _ hlt (by rw [add_block]; exact hx (fun e => by subst e; simp at hu) _ rfl))]
 exact h6
theorem ownBlock_blk (v : Value) : v.ownBlock = blk v := by cases v <;> first | rfl | (rename_i a n c; cases a <;> rfl)
end Go.Proofs.YtmdgifmigikffaaGreat
namespace Go.Proofs.YtmdgifmigikffaaGreat
open Go.RowKit Go.Deep
theorem step_bapp {w : World} {ops : Array Oper} {o : Oper} {a : Act} {K : Act → World → Prop} {Q : Exit → Act → World → Prop} {E : Prop} (hgd : o.guard = none) (s x : Operand)
 (ho : o.op = .call { callee := .builtin .append, args := #[s, x], argTypes := #[22, 22] })
 (base : Nat) (v : Value) (n : Nat) (xs : List Value) (hs : a.eval s = v) (hown : w.ownsRow base 5 1 v n xs)
 (y : Value) (l : List UInt8) (hx : a.eval x = y) (hr : Rd w y l) (hl : 0 < l.length) (hn : n + l.length ≤ 140737488355328) (hbase : base ≤ w.heap.size)
 (h : ∀ g cap w', w'.ownsRow base 5 1 (.slice (some ⟨g, 0, none⟩) (n + l.length) cap) (n + l.length) (xs ++ l.map bv) → w.grownBy w' v.ownBlock → (v.ownBlock = some g ∨ g = w.heap.size) → K (a.put o.dst (.slice (some ⟨g, 0, none⟩) (n + l.length) cap)) w') :
 if Region.wanted o (yielded ops a.tmps) = true then Oper.wp Tryz.prog o a w K Q else E := by
 obtain ⟨i0, hi, hz0, hz1, hz2⟩ := info_parts Tryz.info_u8
 obtain ⟨ao, c, rfl, h1, h2, h3, h4⟩ := hr
 cases ao with
 | none => have := h3 rfl; omega
 | some ad =>
  exact step_append_lies w hgd s x 22 ho base 5 i0 (.int .u8 0) 1 1 Tryz.underlying22 hi hz0 hz1 hz2 rfl (by decide) v n xs hs hown ad l.length c (l.map bv) hx (by simp) (h4 ad rfl) (bv_one l) hl
   (by unfold maxLen; omega) (by omega) hbase _ rfl (fun g cap w' a1 a2 a3 _ => h g cap w' a1 a2 a3)
def St (T : TypeId) (W0 : World) (K : List (Nat × Obj)) (a : Nat) (w : World) (l : List UInt8) : Prop :=
 ∃ (ao : Option Addr) (c : Nat), w.heap[a]? = some (.cells #[.slice ao l.length c] T (0, 0)) ∧ w.ownsRow W0.heap.size 5 1 (.slice ao l.length c) l.length (l.map bv) ∧ W0.heap.size ≤ a ∧ (Value.slice ao l.length c).ownBlock ≠ some a ∧ Below W0.heap.size W0 w ∧
  ∀ p ∈ K, w.heap[p.1]? = some p.2 ∧ p.1 ≠ a ∧ (Value.slice ao l.length c).ownBlock ≠ some p.1
def Wrote (T : TypeId) (W0 : World) (K : List (Nat × Obj)) (a : Nat) (l bs : List UInt8) (e : Ending) (w' : World) : Prop := e = .returned (.tuple #[]) ∧ St T W0 K a w' (l ++ bs)
theorem one_cell {w : World} {b : Nat} {u : Value} {t : TypeId} (h : w.heap[b]? = some (.cells #[u] t (0, 0))) : w.cell? ⟨b, 0, none⟩ = some u ∧ w.frozen? ⟨b, 0, none⟩ = false := by
 exact ⟨by simp [World.cell?, h], by simp [World.frozen?, h]⟩
theorem one_set {w : World} {b : Nat} {u x : Value} {t : TypeId} (h : w.heap[b]? = some (.cells #[u] t (0, 0))) : (w.setCell ⟨b, 0, none⟩ x).heap[b]? = some (.cells #[x] t (0, 0)) := by
 have hlt := lt_of_block h
 have h' : w.heap[b] = .cells #[u] t (0, 0) := by simpa [Array.getElem?_eq_getElem hlt] using h
 show (w.heap.modify b _)[b]? = _
 rw [Array.getElem?_eq_getElem (by simpa using hlt), Array.getElem_modify_self, h']
 rfl
theorem gives_rd {w' : World} {v : Value} {B : Nat} {l : List UInt8} (h : w'.ownsRow B 5 1 v l.length (l.map bv)) : ∃ a c, v = .slice a l.length c ∧ Rd w' (.slice a l.length c) l := by
 obtain ⟨ao, c, rfl, _⟩ := Rd.own h
 exact ⟨ao, c, rfl, Rd.own h⟩
theorem St.below {T : TypeId} {W0 w : World} {K : List (Nat × Obj)} {a : Nat} {l : List UInt8} (h : St T W0 K a w l) : Below W0.heap.size W0 w := by
 obtain ⟨_, _, _, _, _, _, h5, _⟩ := h
 exact h5
theorem St.lt {T : TypeId} {W0 w : World} {K : List (Nat × Obj)} {a : Nat} {l : List UInt8} (h : St T W0 K a w l) : a < w.heap.size := by
 obtain ⟨_, _, h1, _⟩ := h
 exact lt_of_block h1
theorem St.old {T : TypeId} {W0 w w' : World} {K : List (Nat × Obj)} {a : Nat} {l : List UInt8} (h : St T W0 K a w l) (hb : Below w.heap.size w w') : St T W0 K a w' l := by
 obtain ⟨ao, c, h1, h2, h3, h4, h5, h6⟩ := h
 exact ⟨ao, c, (hb.block _ (lt_of_block h1)).trans h1, own_old h2 hb, h3, h4, h5.trans (hb.mono h5.size), fun p hp => ⟨(hb.block _ (lt_of_block (h6 p hp).1)).trans (h6 p hp).1, (h6 p hp).2⟩⟩
theorem St.box {T : TypeId} {W0 w : World} {K : List (Nat × Obj)} {a : Nat} {l : List UInt8} (h : St T W0 K a w l) (cs : Array Value) (t : TypeId) : St T W0 ((w.heap.size, .cells cs t (0, 0)) :: K) a (w.alloc (.cells cs t)) l := by
 have hlt := h.lt
 obtain ⟨ao, c, h1, h2, h3, h4, h5, h6⟩ := h.old ((Below.refl _ _).alloc (Nat.le_refl _) (.cells cs t))
 obtain ⟨ao', c', h1', h2', -⟩ := h
 have hq := (((Below.refl w.heap.size w).alloc (Nat.le_refl _) (.cells cs t)).block _ (lt_of_block h1')).trans h1'
 rw [h1] at hq
 simp only [Option.some.injEq, Obj.cells.injEq, Array.mk.injEq, List.cons.injEq, and_true, Value.slice.injEq, true_and] at hq
 refine ⟨ao, c, h1, h2, h3, h4, h5, fun p hp => ?_⟩
 rcases List.mem_cons.1 hp with rfl | hp
 · refine ⟨heap_alloc_new w _, by show w.heap.size ≠ a; omega, fun e => ?_⟩
   rw [hq.1, hq.2] at e
   have := (h2'.lt _ e).2
   simp only at this
   omega
 · exact h6 p hp
theorem St.drop {T : TypeId} {W0 w : World} {x : Nat × Obj} {K : List (Nat × Obj)} {a : Nat} {l : List UInt8} (h : St T W0 (x :: K) a w l) : St T W0 K a w l := by
 obtain ⟨ao, c, h1, h2, h3, h4, h5, h6⟩ := h
 exact ⟨ao, c, h1, h2, h3, h4, h5, fun p hp => h6 p (List.mem_cons_of_mem _ hp)⟩
theorem St.at {T : TypeId} {W0 w : World} {b : Nat} {o : Obj} {K : List (Nat × Obj)} {a : Nat} {l : List UInt8} (h : St T W0 ((b, o) :: K) a w l) : w.heap[b]? = some o := by
 obtain ⟨ao, c, h1, h2, h3, h4, h5, h6⟩ := h
 exact (h6 (b, o) List.mem_cons_self).1
theorem St.put {T : TypeId} {W0 w w1 : World} {K : List (Nat × Obj)} {a : Nat} {l bs : List UInt8} {ao : Option Addr} {c g cap : Nat} (h1 : w.heap[a]? = some (.cells #[.slice ao l.length c] T (0, 0))) (h2 : w.ownsRow W0.heap.size 5 1 (.slice ao l.length c) l.length (l.map bv))
 (h3 : W0.heap.size ≤ a) (h4 : (Value.slice ao l.length c).ownBlock ≠ some a) (h5 : Below W0.heap.size W0 w) (h6 : ∀ p ∈ K, w.heap[p.1]? = some p.2 ∧ p.1 ≠ a ∧ (Value.slice ao l.length c).ownBlock ≠ some p.1)
 (o : w1.ownsRow W0.heap.size 5 1 (.slice (some ⟨g, 0, none⟩) (l.length + bs.length) cap) (l.length + bs.length) (l.map bv ++ bs.map bv)) (hg : w.grownBy w1 (Value.slice ao l.length c).ownBlock) (hgg : (Value.slice ao l.length c).ownBlock = some g ∨ g = w.heap.size) :
 St T W0 K a (w1.setCell ⟨a, 0, none⟩ (.slice (some ⟨g, 0, none⟩) (l.length + bs.length) cap)) (l ++ bs) := by
 have hk := heap_kept hg h1 (fun e => h4 e.symm)
 have hne : ∀ k, k < w.heap.size → (Value.slice ao l.length c).ownBlock ≠ some k → g ≠ k := by
  rintro k hk hn rfl
  rcases hgg with e | e
  · exact hn e
  · omega
 have hga : g ≠ a := hne a (lt_of_block h1) h4
 have hb1 : Below W0.heap.size W0 w1 := h5.grown hg h5.size (fun k hk => (h2.lt k hk).1)
 refine ⟨some ⟨g, 0, none⟩, cap, ?_, ?_, h3, by simpa [Value.ownBlock] using hga, hb1.setCell (p := ⟨a, 0, none⟩) h3 _, fun p hp => ?_⟩
 · rw [List.length_append]
   exact one_set hk
 · rw [List.length_append, List.map_append]
   exact o.kept (grown_set w1 ⟨a, 0, none⟩ _) (.inr (by simpa [Value.ownBlock] using hga))
 · obtain ⟨q1, q2, q3⟩ := h6 p hp
   have k1 := heap_kept hg q1 (fun e => q3 e.symm)
   refine ⟨heap_kept (grown_set w1 ⟨a, 0, none⟩ _) k1 (by simpa using q2), q2, ?_⟩
   have := hne p.1 (lt_of_block q1) q3
   simpa [Value.ownBlock] using this
set_option maxHeartbeats 4000000 in
theorem wnum_any {W0 w : World} {KK : List (Nat × Obj)} {a : Nat} {l : List UInt8} (h : St 132 W0 KK a w l) (n : Nat) (hn : n < 18446744073709551616) (hl : l.length + (numL n).length ≤ 1000000000000) :
 Calls Tryz.prog 130 #[.pointer (some ⟨a, 0, none⟩), .int .u64 (n : Int)] w (Wrote 132 W0 KK a l (numL n)) := by
 obtain ⟨ao, c, h1, h2, h3, h4, h5, h6⟩ := h
 obtain ⟨bs, hbs⟩ : ∃ bs, bs = numL n := ⟨_, rfl⟩
 have CN : Hid (∀ V, Below w.heap.size w V → Calls Tryz.prog 165 #[.int .u64 (n : Int)] V (Gives 5 V bs)) := hid fun V hV => by rw [hbs]; exact num_any n V (numL_len10 (by omega))
 have HLB : Hid (0 < bs.length ∧ l.length + bs.length ≤ 1000000000000) := hid ⟨by rw [hbs]; exact numL_pos _, by rw [hbs]; exact hl⟩
 rw [← hbs]; clear hbs hl
 obtain ⟨c0, f0⟩ := one_cell h1
 have H1 := hid h1
 have H2 := hid h2
 have H3 := hid h3
 have H4 := hid h4
 have H5 := hid h5
 have HWd : Hid (Below w.heap.size w w.drew) := hid ⟨rfl, rfl, rfl, Nat.le_refl _, fun _ _ => rfl⟩
 have H6 := hid h6
 clear h1 h2 h3 h4 h5 h6
 go_enter Tryz.func130, Tryz.ntmps130
 refine wp_region_noPanic ?_
 refine wp_region_held_drew (S := fun _ => Hid True) (by kernel_rfl) (hid trivial) (fun hHeld => ?_)
 have CNd := hid (CN.out _ HWd.out)
 have d0 : w.drew.cell? ⟨a, 0, none⟩ = some (.slice ao l.length c) := c0
 generalize w.drew = Wd at *
 have HD0 := hid d0
 clear d0 c0 f0
 refine tkH 0 ((.pointer (some ⟨a, 0, none⟩))) rfl (by kernel_rfl) (fun _ _ _ => False.elim) hHeld (Or.inl ⟨by rfl, fun W9 hW => by clear hHeld; simp only [jA, jB, jC]; go_simp⟩) ?_
 simp only [Act.put, jA, jB, jC, jD, jE, jF]
 refine tkH 1 ((.pointer (some ⟨a, 0, none⟩))) rfl (by kernel_rfl) (fun _ _ _ => False.elim) hHeld (Or.inl ⟨by rfl, fun W9 hW => by clear hHeld; simp only [jA, jB, jC]; go_simp⟩) ?_
 simp only [Act.put, jA, jB, jC, jD, jE, jF]
 refine tkH 2 ((.pointer (some ⟨a, 0, none⟩))) rfl (by kernel_rfl) (fun _ _ _ => False.elim) hHeld (Or.inl ⟨by rfl, fun W9 hW => by clear hHeld; simp only [jA, jB, jC]; go_simp⟩) ?_
 simp only [Act.put, jA, jB, jC, jD, jE, jF]
 refine tkH 3 ((.pointer (some ⟨a, 0, none⟩))) rfl (by kernel_rfl) (fun _ _ _ => False.elim) hHeld (Or.inl ⟨by rfl, fun W9 hW => by clear hHeld; simp only [jA, jB, jC]; go_simp⟩) ?_
 simp only [Act.put, jA, jB, jC, jD, jE, jF]
 refine tkH 5 ((.int .u64 (n : Int))) rfl (by kernel_rfl) (fun _ _ _ => False.elim) hHeld (Or.inl ⟨by rfl, fun W9 hW => by clear hHeld; simp only [jA, jB, jC]; go_simp⟩) ?_
 simp only [Act.put, jA, jB, jC, jD, jE, jF]
 refine wpAnyH_ready (rs := [4, 6]) (by kernel_rfl) (by simp) ?_
 refine AllReadyH.cons rfl (fun K hK => ?_) (AllReadyH.cons rfl (fun K hK => ?_) AllReadyH.nil)
 · have d0 := HD0.out
   go_simp
   refine hK.out _ _ (hid trivial) (fun hHeld => ?_)
   clear hK K d0
   refine rdH 6 (by kernel_rfl) rfl fun K hK => ?_
   go_simp
   go_wp2_with (first | (go_at_call 165; refine CNd.out.mono ?_; rintro en wT ⟨vT, rfl, hoT, hbT⟩; obtain ⟨ta, tc, rfl, hrT⟩ := gives_rd hoT; have HRT := hid hrT; have HBT := hid (HWd.out.trans (hbT.mono HWd.out.size)); have hdT := (World.cell?_of_block (w := Wd) (w' := wT) (a := ⟨a, 0, none⟩) (hbT.block _ (World.block_lt_of_cell? _ _ HD0.out))).trans HD0.out; have HDT := hid hdT; clear hbT hrT hoT hdT))
   refine hK.out _ _ (hid trivial) (fun hHeld => ?_)
   clear hK K
   have H1T : Hid (wT.heap[a]? = some (.cells #[.slice ao l.length c] 132 (0, 0))) := hid ((HBT.out.block _ (lt_of_block H1.out)).trans H1.out)
   have H2T := hid (own_old H2.out HBT.out)
   have H5T : Hid (Below W0.heap.size W0 wT) := hid (H5.out.trans (HBT.out.mono H5.out.size))
   have H6T : Hid (∀ p ∈ KK, wT.heap[p.1]? = some p.2 ∧ p.1 ≠ a ∧ (Value.slice ao l.length c).ownBlock ≠ some p.1) := hid fun p hp => ⟨(HBT.out.block _ (lt_of_block (H6.out p hp).1)).trans (H6.out p hp).1, (H6.out p hp).2⟩
   refine rdH 7 (by kernel_rfl) rfl fun K hK => ?_
   refine step_bapp (by rfl) (.tmp 8) (.tmp 10) (by rfl) W0.heap.size _ _ _ (by rfl) H2T.out _ _ (by rfl) HRT.out HLB.out.1 (by have := HLB.out.2; omega) H5T.out.size (fun g cap w' o5 g5 gg5 => ?_)
   have HK := hid (heap_kept g5 H1T.out (fun e => H4.out e.symm))
   have HP := hid (St.put H1T.out H2T.out H3.out H4.out H5T.out H6T.out o5 g5 gg5)
   clear o5 g5 gg5
   refine hK.out _ _ (hid trivial) (fun hHeld => ?_)
   clear hK K
   simp only [Act.put, jA, jB, jC, jD, jE, jF]
   refine tkH 8 ((.pointer (some ⟨a, 0, none⟩))) rfl (by kernel_rfl) (fun _ _ _ => False.elim) hHeld (Or.inl ⟨by rfl, fun W9 hW => by clear hHeld; simp only [jA, jB, jC]; go_simp⟩) ?_
   simp only [Act.put, jA, jB, jC, jD, jE, jF]
   refine tkH 9 ((.pointer (some ⟨a, 0, none⟩))) rfl (by kernel_rfl) (fun _ _ _ => False.elim) hHeld (Or.inl ⟨by rfl, fun W9 hW => by clear hHeld; simp only [jA, jB, jC]; go_simp⟩) ?_
   simp only [Act.put, jA, jB, jC, jD, jE, jF]
   obtain ⟨k0, k1⟩ := one_cell HK.out
   refine rdH 10 (by kernel_rfl) rfl fun K hK => ?_
   go_simp
   refine hK.out _ _ (hid trivial) (fun hHeld => ?_)
   clear hK K
   refine wpAnyH_done (by kernel_rfl) ?_ _
   refine NoPanic.normal ?_
   go_wp2_with fail
   go_end0
   exact ⟨rfl, HP.out⟩
 · go_simp
   go_wp2_with (first | (go_at_call 165; refine CNd.out.mono ?_; rintro en wT ⟨vT, rfl, hoT, hbT⟩; obtain ⟨ta, tc, rfl, hrT⟩ := gives_rd hoT; have HRT := hid hrT; have HBT := hid (HWd.out.trans (hbT.mono HWd.out.size)); have hdT := (World.cell?_of_block (w := Wd) (w' := wT) (a := ⟨a, 0, none⟩) (hbT.block _ (World.block_lt_of_cell? _ _ HD0.out))).trans HD0.out; have HDT := hid hdT; clear hbT hrT hoT hdT))
   refine hK.out _ _ (hid trivial) (fun hHeld => ?_)
   clear hK K
   have d1 := HDT.out
   refine rdH 4 (by kernel_rfl) rfl fun K hK => ?_
   go_simp
   refine hK.out _ _ (hid trivial) (fun hHeld => ?_)
   clear hK K
   clear d1
   have H1T : Hid (wT.heap[a]? = some (.cells #[.slice ao l.length c] 132 (0, 0))) := hid ((HBT.out.block _ (lt_of_block H1.out)).trans H1.out)
   have H2T := hid (own_old H2.out HBT.out)
   have H5T : Hid (Below W0.heap.size W0 wT) := hid (H5.out.trans (HBT.out.mono H5.out.size))
   have H6T : Hid (∀ p ∈ KK, wT.heap[p.1]? = some p.2 ∧ p.1 ≠ a ∧ (Value.slice ao l.length c).ownBlock ≠ some p.1) := hid fun p hp => ⟨(HBT.out.block _ (lt_of_block (H6.out p hp).1)).trans (H6.out p hp).1, (H6.out p hp).2⟩
   refine rdH 7 (by kernel_rfl) rfl fun K hK => ?_
   refine step_bapp (by rfl) (.tmp 8) (.tmp 10) (by rfl) W0.heap.size _ _ _ (by rfl) H2T.out _ _ (by rfl) HRT.out HLB.out.1 (by have := HLB.out.2; omega) H5T.out.size (fun g cap w' o5 g5 gg5 => ?_)
   have HK := hid (heap_kept g5 H1T.out (fun e => H4.out e.symm))
   have HP := hid (St.put H1T.out H2T.out H3.out H4.out H5T.out H6T.out o5 g5 gg5)
   clear o5 g5 gg5
   refine hK.out _ _ (hid trivial) (fun hHeld => ?_)
   clear hK K
   simp only [Act.put, jA, jB, jC, jD, jE, jF]
   refine tkH 8 ((.pointer (some ⟨a, 0, none⟩))) rfl (by kernel_rfl) (fun _ _ _ => False.elim) hHeld (Or.inl ⟨by rfl, fun W9 hW => by clear hHeld; simp only [jA, jB, jC]; go_simp⟩) ?_
   simp only [Act.put, jA, jB, jC, jD, jE, jF]
   refine tkH 9 ((.pointer (some ⟨a, 0, none⟩))) rfl (by kernel_rfl) (fun _ _ _ => False.elim) hHeld (Or.inl ⟨by rfl, fun W9 hW => by clear hHeld; simp only [jA, jB, jC]; go_simp⟩) ?_
   simp only [Act.put, jA, jB, jC, jD, jE, jF]
   obtain ⟨k0, k1⟩ := one_cell HK.out
   refine rdH 10 (by kernel_rfl) rfl fun K hK => ?_
   go_simp
   refine hK.out _ _ (hid trivial) (fun hHeld => ?_)
   clear hK K
   refine wpAnyH_done (by kernel_rfl) ?_ _
   refine NoPanic.normal ?_
   go_wp2_with fail
   go_end0
   exact ⟨rfl, HP.out⟩
set_option maxHeartbeats 4000000 in
theorem wdata_any {W0 w : World} {KK : List (Nat × Obj)} {a : Nat} {l : List UInt8} (h : St 132 W0 KK a w l) (x : Value) (m : List UInt8) (hx : Rd w x m) (hm : m.length ≤ 140737488355300) (hl : l.length + (textL m).length ≤ 1000000000000) :
 Calls Tryz.prog 131 #[.pointer (some ⟨a, 0, none⟩), x] w (Wrote 132 W0 KK a l (textL m)) := by
 obtain ⟨ao, c, h1, h2, h3, h4, h5, h6⟩ := h
 obtain ⟨bs, hbs⟩ : ∃ bs, bs = textL m := ⟨_, rfl⟩
 have CN : Hid (∀ V, Below w.heap.size w V → Calls Tryz.prog 166 #[x] V (Gives 5 V bs)) := hid fun V hV => by rw [hbs]; exact text_any x m V (hx.old hV) hm
 have HLB : Hid (0 < bs.length ∧ l.length + bs.length ≤ 1000000000000) := hid ⟨by rw [hbs]; unfold textL; rw [List.length_append]; have := numL_pos m.length; omega, by rw [hbs]; exact hl⟩
 rw [← hbs]; clear hbs hl
 obtain ⟨c0, f0⟩ := one_cell h1
 have H1 := hid h1
 have H2 := hid h2
 have H3 := hid h3
 have H4 := hid h4
 have H5 := hid h5
 have HWd : Hid (Below w.heap.size w w.drew) := hid ⟨rfl, rfl, rfl, Nat.le_refl _, fun _ _ => rfl⟩
 have H6 := hid h6
 clear h1 h2 h3 h4 h5 h6
 go_enter Tryz.func131, Tryz.ntmps131
 refine wp_region_noPanic ?_
 refine wp_region_held_drew (S := fun _ => Hid True) (by kernel_rfl) (hid trivial) (fun hHeld => ?_)
 have CNd := hid (CN.out _ HWd.out)
 have d0 : w.drew.cell? ⟨a, 0, none⟩ = some (.slice ao l.length c) := c0
 generalize w.drew = Wd at *
 have HD0 := hid d0
 clear d0 c0 f0
 refine tkH 0 ((.pointer (some ⟨a, 0, none⟩))) rfl (by kernel_rfl) (fun _ _ _ => False.elim) hHeld (Or.inl ⟨by rfl, fun W9 hW => by clear hHeld; simp only [jA, jB, jC]; go_simp⟩) ?_
 simp only [Act.put, jA, jB, jC, jD, jE, jF]
 refine tkH 1 ((.pointer (some ⟨a, 0, none⟩))) rfl (by kernel_rfl) (fun _ _ _ => False.elim) hHeld (Or.inl ⟨by rfl, fun W9 hW => by clear hHeld; simp only [jA, jB, jC]; go_simp⟩) ?_
 simp only [Act.put, jA, jB, jC, jD, jE, jF]
 refine tkH 2 ((.pointer (some ⟨a, 0, none⟩))) rfl (by kernel_rfl) (fun _ _ _ => False.elim) hHeld (Or.inl ⟨by rfl, fun W9 hW => by clear hHeld; simp only [jA, jB, jC]; go_simp⟩) ?_
 simp only [Act.put, jA, jB, jC, jD, jE, jF]
 refine tkH 3 ((.pointer (some ⟨a, 0, none⟩))) rfl (by kernel_rfl) (fun _ _ _ => False.elim) hHeld (Or.inl ⟨by rfl, fun W9 hW => by clear hHeld; simp only [jA, jB, jC]; go_simp⟩) ?_
 simp only [Act.put, jA, jB, jC, jD, jE, jF]
 refine tkH 5 (x) rfl (by kernel_rfl) (fun _ _ _ => False.elim) hHeld (Or.inl ⟨by rfl, fun W9 hW => by clear hHeld; simp only [jA, jB, jC]; go_simp⟩) ?_
 simp only [Act.put, jA, jB, jC, jD, jE, jF]
 refine wpAnyH_ready (rs := [4, 6]) (by kernel_rfl) (by simp) ?_
 refine AllReadyH.cons rfl (fun K hK => ?_) (AllReadyH.cons rfl (fun K hK => ?_) AllReadyH.nil)
 · have d0 := HD0.out
   go_simp
   refine hK.out _ _ (hid trivial) (fun hHeld => ?_)
   clear hK K d0
   refine rdH 6 (by kernel_rfl) rfl fun K hK => ?_
   go_simp
   go_wp2_with (first | (go_at_call 166; refine CNd.out.mono ?_; rintro en wT ⟨vT, rfl, hoT, hbT⟩; obtain ⟨ta, tc, rfl, hrT⟩ := gives_rd hoT; have HRT := hid hrT; have HBT := hid (HWd.out.trans (hbT.mono HWd.out.size)); have hdT := (World.cell?_of_block (w := Wd) (w' := wT) (a := ⟨a, 0, none⟩) (hbT.block _ (World.block_lt_of_cell? _ _ HD0.out))).trans HD0.out; have HDT := hid hdT; clear hbT hrT hoT hdT))
   refine hK.out _ _ (hid trivial) (fun hHeld => ?_)
   clear hK K
   have H1T : Hid (wT.heap[a]? = some (.cells #[.slice ao l.length c] 132 (0, 0))) := hid ((HBT.out.block _ (lt_of_block H1.out)).trans H1.out)
   have H2T := hid (own_old H2.out HBT.out)
   have H5T : Hid (Below W0.heap.size W0 wT) := hid (H5.out.trans (HBT.out.mono H5.out.size))
   have H6T : Hid (∀ p ∈ KK, wT.heap[p.1]? = some p.2 ∧ p.1 ≠ a ∧ (Value.slice ao l.length c).ownBlock ≠ some p.1) := hid fun p hp => ⟨(HBT.out.block _ (lt_of_block (H6.out p hp).1)).trans (H6.out p hp).1, (H6.out p hp).2⟩
   refine rdH 7 (by kernel_rfl) rfl fun K hK => ?_
   refine step_bapp (by rfl) (.tmp 8) (.tmp 10) (by rfl) W0.heap.size _ _ _ (by rfl) H2T.out _ _ (by rfl) HRT.out HLB.out.1 (by have := HLB.out.2; omega) H5T.out.size (fun g cap w' o5 g5 gg5 => ?_)
   have HK := hid (heap_kept g5 H1T.out (fun e => H4.out e.symm))
   have HP := hid (St.put H1T.out H2T.out H3.out H4.out H5T.out H6T.out o5 g5 gg5)
   clear o5 g5 gg5
   refine hK.out _ _ (hid trivial) (fun hHeld => ?_)
   clear hK K
   simp only [Act.put, jA, jB, jC, jD, jE, jF]
   refine tkH 8 ((.pointer (some ⟨a, 0, none⟩))) rfl (by kernel_rfl) (fun _ _ _ => False.elim) hHeld (Or.inl ⟨by rfl, fun W9 hW => by clear hHeld; simp only [jA, jB, jC]; go_simp⟩) ?_
   simp only [Act.put, jA, jB, jC, jD, jE, jF]
   refine tkH 9 ((.pointer (some ⟨a, 0, none⟩))) rfl (by kernel_rfl) (fun _ _ _ => False.elim) hHeld (Or.inl ⟨by rfl, fun W9 hW => by clear hHeld; simp only [jA, jB, jC]; go_simp⟩) ?_
   simp only [Act.put, jA, jB, jC, jD, jE, jF]
   obtain ⟨k0, k1⟩ := one_cell HK.out
   refine rdH 10 (by kernel_rfl) rfl fun K hK => ?_
   go_simp
   refine hK.out _ _ (hid trivial) (fun hHeld => ?_)
   clear hK K
   refine wpAnyH_done (by kernel_rfl) ?_ _
   refine NoPanic.normal ?_
   go_wp2_with fail
   go_end0
   exact ⟨rfl, HP.out⟩
 · go_simp
   go_wp2_with (first | (go_at_call 166; refine CNd.out.mono ?_; rintro en wT ⟨vT, rfl, hoT, hbT⟩; obtain ⟨ta, tc, rfl, hrT⟩ := gives_rd hoT; have HRT := hid hrT; have HBT := hid (HWd.out.trans (hbT.mono HWd.out.size)); have hdT := (World.cell?_of_block (w := Wd) (w' := wT) (a := ⟨a, 0, none⟩) (hbT.block _ (World.block_lt_of_cell? _ _ HD0.out))).trans HD0.out; have HDT := hid hdT; clear hbT hrT hoT hdT))
   refine hK.out _ _ (hid trivial) (fun hHeld => ?_)
   clear hK K
   have d1 := HDT.out
   refine rdH 4 (by kernel_rfl) rfl fun K hK => ?_
   go_simp
   refine hK.out _ _ (hid trivial) (fun hHeld => ?_)
   clear hK K
   clear d1
   have H1T : Hid (wT.heap[a]? = some (.cells #[.slice ao l.length c] 132 (0, 0))) := hid ((HBT.out.block _ (lt_of_block H1.out)).trans H1.out)
   have H2T := hid (own_old H2.out HBT.out)
   have H5T : Hid (Below W0.heap.size W0 wT) := hid (H5.out.trans (HBT.out.mono H5.out.size))
   have H6T : Hid (∀ p ∈ KK, wT.heap[p.1]? = some p.2 ∧ p.1 ≠ a ∧ (Value.slice ao l.length c).ownBlock ≠ some p.1) := hid fun p hp => ⟨(HBT.out.block _ (lt_of_block (H6.out p hp).1)).trans (H6.out p hp).1, (H6.out p hp).2⟩
   refine rdH 7 (by kernel_rfl) rfl fun K hK => ?_
   refine step_bapp (by rfl) (.tmp 8) (.tmp 10) (by rfl) W0.heap.size _ _ _ (by rfl) H2T.out _ _ (by rfl) HRT.out HLB.out.1 (by have := HLB.out.2; omega) H5T.out.size (fun g cap w' o5 g5 gg5 => ?_)
   have HK := hid (heap_kept g5 H1T.out (fun e => H4.out e.symm))
   have HP := hid (St.put H1T.out H2T.out H3.out H4.out H5T.out H6T.out o5 g5 gg5)
   clear o5 g5 gg5
   refine hK.out _ _ (hid trivial) (fun hHeld => ?_)
   clear hK K
   simp only [Act.put, jA, jB, jC, jD, jE, jF]
   refine tkH 8 ((.pointer (some ⟨a, 0, none⟩))) rfl (by kernel_rfl) (fun _ _ _ => False.elim) hHeld (Or.inl ⟨by rfl, fun W9 hW => by clear hHeld; simp only [jA, jB, jC]; go_simp⟩) ?_
   simp only [Act.put, jA, jB, jC, jD, jE, jF]
   refine tkH 9 ((.pointer (some ⟨a, 0, none⟩))) rfl (by kernel_rfl) (fun _ _ _ => False.elim) hHeld (Or.inl ⟨by rfl, fun W9 hW => by clear hHeld; simp only [jA, jB, jC]; go_simp⟩) ?_
   simp only [Act.put, jA, jB, jC, jD, jE, jF]
   obtain ⟨k0, k1⟩ := one_cell HK.out
   refine rdH 10 (by kernel_rfl) rfl fun K hK => ?_
   go_simp
   refine hK.out _ _ (hid trivial) (fun hHeld => ?_)
   clear hK K
   refine wpAnyH_done (by kernel_rfl) ?_ _
   refine NoPanic.normal ?_
   go_wp2_with fail
   go_end0
   exact ⟨rfl, HP.out⟩
end Go.Proofs.YtmdgifmigikffaaGreat
namespace Go.Proofs.YtmdgifmigikffaaGreat
open Go.RowKit Go.Deep
section
variable {W0 w : World} {KK : List (Nat × Obj)} {a : Nat} {l b : List UInt8} {v : Value}
theorem wnumE (h : St 132 W0 KK a w l) (e : Enc W0 .num [v] b) (hl : l.length + b.length ≤ 1000000000000) : Calls Tryz.prog 130 #[.pointer (some ⟨a, 0, none⟩), v] w (Wrote 132 W0 KK a l b) := by
 obtain ⟨n, hn, hv, rfl⟩ := e
 cases hv
 exact wnum_any h n hn hl
theorem wdataE (h : St 132 W0 KK a w l) (e : Enc W0 .data [v] b) (hl : l.length + b.length ≤ 1000000000000) : Calls Tryz.prog 131 #[.pointer (some ⟨a, 0, none⟩), v] w (Wrote 132 W0 KK a l b) := by
 obtain ⟨x, m, hv, _, hr, hm, rfl⟩ := e
 cases hv
 exact wdata_any h v m (hr.old h.below) (by omega) hl
end
end Go.Proofs.YtmdgifmigikffaaGreat
namespace Go.Proofs.YtmdgifmigikffaaGreat
open Go.RowKit Go.Deep
def takeB (M : List (List Value × List UInt8)) (k : Nat) : List UInt8 := ((M.take k).map (·.2)).flatten
def Lst (W0 : World) (s : Sh) (ao : Option Addr) (n c : Nat) (M : List (List Value × List UInt8)) : Prop :=
 Rws s.wid W0 (.slice ao n c) (M.map (·.1)) ∧ (∀ m ∈ M, Enc W0 s m.1 m.2) ∧ M.length = n ∧ n ≤ 1048576
theorem list_open {W0 : World} {s : Sh} {v : Value} {b : List UInt8} (h : Enc W0 (.list s) [v] b) : ∃ (ao : Option Addr) (n c : Nat) (M : List (List Value × List UInt8)), v = .slice ao n c ∧ Lst W0 s ao n c M ∧ b = numL n ++ takeB M n := by
 obtain ⟨ao, c, M, hv, h1, h2, h3, rfl⟩ := h
 cases hv
 exact ⟨ao, M.length, c, M, rfl, ⟨h1, h2, rfl, h3⟩, by unfold takeB; rw [List.take_length]⟩
theorem Lst.get {W0 : World} {s : Sh} {ao : Option Addr} {n c k : Nat} {M : List (List Value × List UInt8)} (h : Lst W0 s ao n c M) (hs : 0 < s.wid) (hk : k < n) :
 ∃ (m : List Value × List UInt8) (b off : Nat), Enc W0 s m.1 m.2 ∧ ao = some ⟨b, off, none⟩ ∧ (∀ W, Below W0.heap.size W0 W → ∀ (j : Nat) u, m.1[j]? = some u → W.cell? ⟨b, off + k * s.wid + j, none⟩ = some u) ∧ takeB M (k + 1) = takeB M k ++ m.2 ∧ (takeB M k).length + m.2.length ≤ (takeB M n).length := by
 obtain ⟨h1, h2, h3, h4⟩ := h
 have hkl : k < M.length := by omega
 have hm : M[k]? = some M[k] := List.getElem?_eq_getElem hkl
 obtain ⟨b, off, hao, hc⟩ := h1.get hs (k := k) (r := M[k].1) (by rw [List.getElem?_map, hm]; rfl)
 have ht : takeB M (k + 1) = takeB M k ++ M[k].2 := by
  unfold takeB
  rw [List.take_add_one, hm]
  show ((M.take k ++ [M[k]]).map (·.2)).flatten = _
  rw [List.map_append, List.flatten_append]
  simp
 refine ⟨M[k], b, off, h2 _ (List.getElem_mem hkl), hao, fun W hb j u hu => (hb.cell (p := ⟨b, off + k * s.wid + j, none⟩) (World.block_lt_of_cell? _ _ (hc j u hu))).trans (hc j u hu), ht, ?_⟩
 have e : takeB M n = takeB M (k + 1) ++ ((M.drop (k + 1)).map (·.2)).flatten := by
  unfold takeB
  rw [← h3, List.take_length, ← List.flatten_append, ← List.map_append, List.take_append_drop]
 rw [e, ht]
 simp only [List.length_append]
 omega
theorem Lst.cap {W0 : World} {s : Sh} {ao : Option Addr} {n c : Nat} {M : List (List Value × List UInt8)} (h : Lst W0 s ao n c M) : n ≤ c ∧ n ≤ 1048576 ∧ n < 18446744073709551616 ∧ IntKind.u64.wrap (n : Int) = (n : Int) := by
 obtain ⟨h1, h2, h3, h4⟩ := h
 obtain ⟨_, _, e, q1, _⟩ := h1.form
 simp only [Value.slice.injEq, List.length_map] at e q1
 refine ⟨by omega, by omega, by omega, ?_⟩
 rw [wrap_u64]; omega
theorem one_of {W : World} {s : Sh} {cs : List Value} {b : List UInt8} (h : Enc W s cs b) (hs : s.wid = 1) : ∃ v, cs = [v] := by
 have := h.wide.1
 rw [hs] at this
 exact List.length_eq_one_iff.1 this
theorem box_cell {T : TypeId} {W0 w : World} {B : Nat} {cs : List Value} {t : TypeId} {KK : List (Nat × Obj)} {a : Nat} {l : List UInt8} (h : St T W0 ((B, .cells cs.toArray t (0, 0)) :: KK) a w l) (j : Nat) (u : Value) (hj : cs[j]? = some u) : w.cell? ⟨B, j, none⟩ = some u := by
 have := h.at
 simp [World.cell?, this, hj]
theorem form_num {W : World} {v : Value} {b : List UInt8} (h : Enc W .num [v] b) : ∃ n : Nat, v = .int .u64 (n : Int) := by
 obtain ⟨n, _, hv, _⟩ := h; cases hv; exact ⟨n, rfl⟩
theorem form_int {W : World} {v : Value} {b : List UInt8} (h : Enc W .int [v] b) : ∃ z : Int, v = .int .i64 z := by
 obtain ⟨z, _, hv, _⟩ := h; cases hv; exact ⟨z, rfl⟩
theorem form_bool {W : World} {v : Value} {b : List UInt8} (h : Enc W .bool [v] b) : ∃ q : Bool, v = .bool q := by
 obtain ⟨q, hv, _⟩ := h; cases hv; exact ⟨q, rfl⟩
theorem form_name {W : World} {v : Value} {b : List UInt8} (h : Enc W .name [v] b) : ∃ s : ByteArray, v = .string s := by
 obtain ⟨l, hv, _⟩ := h; cases hv; exact ⟨_, rfl⟩
theorem form_data {W : World} {v : Value} {b : List UInt8} (h : Enc W .data [v] b) : ∃ (a : Option Addr) (n c : Nat), v = .slice a n c := by
 obtain ⟨x, l, hv, _, hr, _⟩ := h
 cases hv
 obtain ⟨ao, c, rfl, _⟩ := hr
 exact ⟨ao, _, c, rfl⟩
theorem form_list {W : World} {s : Sh} {v : Value} {b : List UInt8} (h : Enc W (.list s) [v] b) : ∃ (a : Option Addr) (n c : Nat), v = .slice a n c := by
 obtain ⟨a, c, M, hv, _⟩ := h; cases hv; exact ⟨a, _, c, rfl⟩
theorem len_now {cur b r : List UInt8} {N : Nat} (h : cur.length + (b ++ r).length ≤ N) : cur.length + b.length ≤ N := by
 rw [List.length_append] at h; omega
theorem len_step {cur b r : List UInt8} {N : Nat} (h : cur.length + (b ++ r).length ≤ N) : (cur ++ b).length + r.length ≤ N := by
 rw [List.length_append] at h ⊢; omega
theorem St.begin (W0 : World) (cs : Array Value) (t T : TypeId) : St T W0 [(W0.heap.size, .cells cs t (0, 0))] (W0.heap.size + 1) ((W0.alloc (.cells cs t)).alloc (.cells #[.slice none 0 0] T)) [] := by
 have h1 := heap_alloc2_new W0 (.cells cs t) (.cells #[.slice none 0 0] T)
 have hb : Below W0.heap.size W0 ((W0.alloc (.cells cs t)).alloc (.cells #[.slice none 0 0] T)) := ((Below.refl _ _).alloc (Nat.le_refl _) _).alloc (by simp) _
 have h0 := (Below.heap_alloc (W0.alloc (.cells cs t)) (.cells #[.slice none 0 0] T) W0.heap.size (by simp)).trans (heap_alloc_new W0 (.cells cs t))
 refine ⟨none, 0, h1, World.ownsRow_nil _ _ _ _, by omega, by simp [Value.ownBlock], hb, fun p hp => ?_⟩
 rcases List.mem_cons.1 hp with rfl | hp
 · exact ⟨h0, by show W0.heap.size ≠ _; omega, by simp [Value.ownBlock]⟩
 · cases hp
theorem St.ends {T : TypeId} {W0 w : World} {K : List (Nat × Obj)} {a : Nat} {l : List UInt8} (h : St T W0 K a w l) : ∃ cx : Value, w.heap[a]? = some (.cells #[cx] T (0, 0)) ∧ Gives 5 W0 l (.returned cx) w := by
 obtain ⟨ao, c, h1, h2, h3, h4, h5, h6⟩ := h
 exact ⟨_, h1, _, rfl, h2, h5⟩
def sValue : Sh := .cons .int (.cons .int (.cons .name .nil))
def sColumn : Sh := .cons .name (.cons .int (.cons .bool .nil))
def sTable : Sh := .cons .int (.cons .name (.cons (.list sColumn) (.cons (.list .int) .nil)))
def sIndex : Sh := .cons .int (.cons .int (.cons .name (.cons (.list .int) (.cons .bool (.cons .int (.cons .bool .nil))))))
def sCatalog : Sh := .cons .int (.cons .int (.cons (.list sTable) (.cons (.list sIndex) .nil)))
def sPair : Sh := .cons .data (.cons .data (.cons .int .nil))
def sWrite : Sh := .cons .data (.cons .data (.cons .bool .nil))
def sSpan : Sh := .cons .data (.cons .data .nil)
def sSeen : Sh := .cons sSpan (.cons (.list sPair) .nil)
def sCommand : Sh := .cons .int (.cons .int (.cons .num (.cons .int (.cons .int (.cons .int (.cons .bool (.cons .data (.cons sSpan (.cons (.list sPair) (.cons (.list sSeen) (.cons (.list sWrite) (.cons sTable (.cons sIndex (.cons .name .nil))))))))))))))
def sOwner : Sh := .cons .int (.cons .data .nil)
def sRoutes : Sh := .cons .int (.cons .int (.cons (.list sOwner) (.cons .int (.cons .data .nil))))
def sReply : Sh := .cons .int (.cons .num (.cons .int (.cons .bool (.cons (.list sPair) (.cons (.list .num) (.cons sCatalog (.cons sRoutes .nil)))))))
def sSet : Sh := .cons .int (.cons sValue .nil)
def sOp : Sh := .cons .int (.cons .name (.cons .name (.cons (.list sValue) (.cons (.list sValue) (.cons (.list sSet) (.cons (.list sValue) (.cons (.list sValue) (.cons .int (.cons .bool (.cons (.list .data) .nil))))))))))
def sAsk : Sh := .cons .int (.cons (.list sOp) (.cons sTable (.cons sIndex (.cons .name (.cons .int (.cons .data .nil))))))
def sCall : Sh := .cons .num (.cons .num (.cons .data .nil))
theorem Value_cells {W0 : World} {cs : List Value} {bs : List UInt8} (h : Enc W0 sValue cs bs) : ∃ (v0 v1 v2 : Value) (b0 b1 b2 : List UInt8), cs = [v0, v1, v2] ∧ bs = b0 ++ (b1 ++ b2) ∧ Enc W0 .int [v0] b0 ∧ Enc W0 .int [v1] b1 ∧ Enc W0 .name [v2] b2 := by
 unfold sValue at h
 obtain ⟨c0, r0, p0, q0, rfl, rfl, f0, h⟩ := h
 obtain ⟨v0, rfl⟩ := one_of f0 rfl
 have e0 := f0
 obtain ⟨c1, r1, p1, q1, rfl, rfl, f1, h⟩ := h
 obtain ⟨v1, rfl⟩ := one_of f1 rfl
 have e1 := f1
 obtain ⟨c2, r2, p2, q2, rfl, rfl, f2, h⟩ := h
 obtain ⟨v2, rfl⟩ := one_of f2 rfl
 have e2 := f2
 obtain ⟨rfl, rfl⟩ := h
 exact ⟨v0, v1, v2, p0, p1, p2, rfl, by simp [List.append_assoc], e0, e1, e2⟩
theorem Column_cells {W0 : World} {cs : List Value} {bs : List UInt8} (h : Enc W0 sColumn cs bs) : ∃ (v0 v1 v2 : Value) (b0 b1 b2 : List UInt8), cs = [v0, v1, v2] ∧ bs = b0 ++ (b1 ++ b2) ∧ Enc W0 .name [v0] b0 ∧ Enc W0 .int [v1] b1 ∧ Enc W0 .bool [v2] b2 := by
 unfold sColumn at h
 obtain ⟨c0, r0, p0, q0, rfl, rfl, f0, h⟩ := h
 obtain ⟨v0, rfl⟩ := one_of f0 rfl
 have e0 := f0
 obtain ⟨c1, r1, p1, q1, rfl, rfl, f1, h⟩ := h
 obtain ⟨v1, rfl⟩ := one_of f1 rfl
 have e1 := f1
 obtain ⟨c2, r2, p2, q2, rfl, rfl, f2, h⟩ := h
 obtain ⟨v2, rfl⟩ := one_of f2 rfl
 have e2 := f2
 obtain ⟨rfl, rfl⟩ := h
 exact ⟨v0, v1, v2, p0, p1, p2, rfl, by simp [List.append_assoc], e0, e1, e2⟩
theorem Table_cells {W0 : World} {cs : List Value} {bs : List UInt8} (h : Enc W0 sTable cs bs) : ∃ (v0 v1 v2 v3 : Value) (b0 b1 b2 b3 : List UInt8), cs = [v0, v1, v2, v3] ∧ bs = b0 ++ (b1 ++ (b2 ++ b3)) ∧ Enc W0 .int [v0] b0 ∧ Enc W0 .name [v1] b1 ∧ Enc W0 (.list sColumn) [v2] b2 ∧ Enc W0 (.list .int) [v3] b3 := by
 unfold sTable at h
 obtain ⟨c0, r0, p0, q0, rfl, rfl, f0, h⟩ := h
 obtain ⟨v0, rfl⟩ := one_of f0 rfl
 have e0 := f0
 obtain ⟨c1, r1, p1, q1, rfl, rfl, f1, h⟩ := h
 obtain ⟨v1, rfl⟩ := one_of f1 rfl
 have e1 := f1
 obtain ⟨c2, r2, p2, q2, rfl, rfl, f2, h⟩ := h
 obtain ⟨v2, rfl⟩ := one_of f2 rfl
 have e2 := f2
 obtain ⟨c3, r3, p3, q3, rfl, rfl, f3, h⟩ := h
 obtain ⟨v3, rfl⟩ := one_of f3 rfl
 have e3 := f3
 obtain ⟨rfl, rfl⟩ := h
 exact ⟨v0, v1, v2, v3, p0, p1, p2, p3, rfl, by simp [List.append_assoc], e0, e1, e2, e3⟩
theorem Index_cells {W0 : World} {cs : List Value} {bs : List UInt8} (h : Enc W0 sIndex cs bs) : ∃ (v0 v1 v2 v3 v4 v5 v6 : Value) (b0 b1 b2 b3 b4 b5 b6 : List UInt8), cs = [v0, v1, v2, v3, v4, v5, v6] ∧ bs = b0 ++ (b1 ++ (b2 ++ (b3 ++ (b4 ++ (b5 ++ b6))))) ∧ Enc W0 .int [v0] b0 ∧ Enc W0 .int [v1] b1 ∧ Enc W0 .name [v2] b2 ∧ Enc W0 (.list .int) [v3] b3 ∧ Enc W0 .bool [v4] b4 ∧ Enc W0 .int [v5] b5 ∧ Enc W0 .bool [v6] b6 := by
 unfold sIndex at h
 obtain ⟨c0, r0, p0, q0, rfl, rfl, f0, h⟩ := h
 obtain ⟨v0, rfl⟩ := one_of f0 rfl
 have e0 := f0
 obtain ⟨c1, r1, p1, q1, rfl, rfl, f1, h⟩ := h
 obtain ⟨v1, rfl⟩ := one_of f1 rfl
 have e1 := f1
 obtain ⟨c2, r2, p2, q2, rfl, rfl, f2, h⟩ := h
 obtain ⟨v2, rfl⟩ := one_of f2 rfl
 have e2 := f2
 obtain ⟨c3, r3, p3, q3, rfl, rfl, f3, h⟩ := h
 obtain ⟨v3, rfl⟩ := one_of f3 rfl
 have e3 := f3
 obtain ⟨c4, r4, p4, q4, rfl, rfl, f4, h⟩ := h
 obtain ⟨v4, rfl⟩ := one_of f4 rfl
 have e4 := f4
 obtain ⟨c5, r5, p5, q5, rfl, rfl, f5, h⟩ := h
 obtain ⟨v5, rfl⟩ := one_of f5 rfl
 have e5 := f5
 obtain ⟨c6, r6, p6, q6, rfl, rfl, f6, h⟩ := h
 obtain ⟨v6, rfl⟩ := one_of f6 rfl
 have e6 := f6
 obtain ⟨rfl, rfl⟩ := h
 exact ⟨v0, v1, v2, v3, v4, v5, v6, p0, p1, p2, p3, p4, p5, p6, rfl, by simp [List.append_assoc], e0, e1, e2, e3, e4, e5, e6⟩
theorem Catalog_cells {W0 : World} {cs : List Value} {bs : List UInt8} (h : Enc W0 sCatalog cs bs) : ∃ (v0 v1 v2 v3 : Value) (b0 b1 b2 b3 : List UInt8), cs = [v0, v1, v2, v3] ∧ bs = b0 ++ (b1 ++ (b2 ++ b3)) ∧ Enc W0 .int [v0] b0 ∧ Enc W0 .int [v1] b1 ∧ Enc W0 (.list sTable) [v2] b2 ∧ Enc W0 (.list sIndex) [v3] b3 := by
 unfold sCatalog at h
 obtain ⟨c0, r0, p0, q0, rfl, rfl, f0, h⟩ := h
 obtain ⟨v0, rfl⟩ := one_of f0 rfl
 have e0 := f0
 obtain ⟨c1, r1, p1, q1, rfl, rfl, f1, h⟩ := h
 obtain ⟨v1, rfl⟩ := one_of f1 rfl
 have e1 := f1
 obtain ⟨c2, r2, p2, q2, rfl, rfl, f2, h⟩ := h
 obtain ⟨v2, rfl⟩ := one_of f2 rfl
 have e2 := f2
 obtain ⟨c3, r3, p3, q3, rfl, rfl, f3, h⟩ := h
 obtain ⟨v3, rfl⟩ := one_of f3 rfl
 have e3 := f3
 obtain ⟨rfl, rfl⟩ := h
 exact ⟨v0, v1, v2, v3, p0, p1, p2, p3, rfl, by simp [List.append_assoc], e0, e1, e2, e3⟩
theorem Pair_cells {W0 : World} {cs : List Value} {bs : List UInt8} (h : Enc W0 sPair cs bs) : ∃ (v0 v1 v2 : Value) (b0 b1 b2 : List UInt8), cs = [v0, v1, v2] ∧ bs = b0 ++ (b1 ++ b2) ∧ Enc W0 .data [v0] b0 ∧ Enc W0 .data [v1] b1 ∧ Enc W0 .int [v2] b2 := by
 unfold sPair at h
 obtain ⟨c0, r0, p0, q0, rfl, rfl, f0, h⟩ := h
 obtain ⟨v0, rfl⟩ := one_of f0 rfl
 have e0 := f0
 obtain ⟨c1, r1, p1, q1, rfl, rfl, f1, h⟩ := h
 obtain ⟨v1, rfl⟩ := one_of f1 rfl
 have e1 := f1
 obtain ⟨c2, r2, p2, q2, rfl, rfl, f2, h⟩ := h
 obtain ⟨v2, rfl⟩ := one_of f2 rfl
 have e2 := f2
 obtain ⟨rfl, rfl⟩ := h
 exact ⟨v0, v1, v2, p0, p1, p2, rfl, by simp [List.append_assoc], e0, e1, e2⟩
theorem Write_cells {W0 : World} {cs : List Value} {bs : List UInt8} (h : Enc W0 sWrite cs bs) : ∃ (v0 v1 v2 : Value) (b0 b1 b2 : List UInt8), cs = [v0, v1, v2] ∧ bs = b0 ++ (b1 ++ b2) ∧ Enc W0 .data [v0] b0 ∧ Enc W0 .data [v1] b1 ∧ Enc W0 .bool [v2] b2 := by
 unfold sWrite at h
 obtain ⟨c0, r0, p0, q0, rfl, rfl, f0, h⟩ := h
 obtain ⟨v0, rfl⟩ := one_of f0 rfl
 have e0 := f0
 obtain ⟨c1, r1, p1, q1, rfl, rfl, f1, h⟩ := h
 obtain ⟨v1, rfl⟩ := one_of f1 rfl
 have e1 := f1
 obtain ⟨c2, r2, p2, q2, rfl, rfl, f2, h⟩ := h
 obtain ⟨v2, rfl⟩ := one_of f2 rfl
 have e2 := f2
 obtain ⟨rfl, rfl⟩ := h
 exact ⟨v0, v1, v2, p0, p1, p2, rfl, by simp [List.append_assoc], e0, e1, e2⟩
theorem Span_cells {W0 : World} {cs : List Value} {bs : List UInt8} (h : Enc W0 sSpan cs bs) : ∃ (v0 v1 : Value) (b0 b1 : List UInt8), cs = [v0, v1] ∧ bs = b0 ++ b1 ∧ Enc W0 .data [v0] b0 ∧ Enc W0 .data [v1] b1 := by
 unfold sSpan at h
 obtain ⟨c0, r0, p0, q0, rfl, rfl, f0, h⟩ := h
 obtain ⟨v0, rfl⟩ := one_of f0 rfl
 have e0 := f0
 obtain ⟨c1, r1, p1, q1, rfl, rfl, f1, h⟩ := h
 obtain ⟨v1, rfl⟩ := one_of f1 rfl
 have e1 := f1
 obtain ⟨rfl, rfl⟩ := h
 exact ⟨v0, v1, p0, p1, rfl, by simp [List.append_assoc], e0, e1⟩
theorem Seen_cells {W0 : World} {cs : List Value} {bs : List UInt8} (h : Enc W0 sSeen cs bs) : ∃ (v0 v1 v2 : Value) (b0 b1 b2 : List UInt8), cs = [v0, v1, v2] ∧ bs = b0 ++ (b1 ++ b2) ∧ Enc W0 .data [v0] b0 ∧ Enc W0 .data [v1] b1 ∧ Enc W0 (.list sPair) [v2] b2 := by
 unfold sSeen at h
 obtain ⟨c0, r0, p0, q0, rfl, rfl, f0, h⟩ := h
 obtain ⟨v0, v1, b0, b1, rfl, rfl, e0, e1⟩ := Span_cells f0
 obtain ⟨c1, r1, p1, q1, rfl, rfl, f1, h⟩ := h
 obtain ⟨v2, rfl⟩ := one_of f1 rfl
 have e2 := f1
 obtain ⟨rfl, rfl⟩ := h
 exact ⟨v0, v1, v2, b0, b1, p1, rfl, by simp [List.append_assoc], e0, e1, e2⟩
theorem Owner_cells {W0 : World} {cs : List Value} {bs : List UInt8} (h : Enc W0 sOwner cs bs) : ∃ (v0 v1 : Value) (b0 b1 : List UInt8), cs = [v0, v1] ∧ bs = b0 ++ b1 ∧ Enc W0 .int [v0] b0 ∧ Enc W0 .data [v1] b1 := by
 unfold sOwner at h
 obtain ⟨c0, r0, p0, q0, rfl, rfl, f0, h⟩ := h
 obtain ⟨v0, rfl⟩ := one_of f0 rfl
 have e0 := f0
 obtain ⟨c1, r1, p1, q1, rfl, rfl, f1, h⟩ := h
 obtain ⟨v1, rfl⟩ := one_of f1 rfl
 have e1 := f1
 obtain ⟨rfl, rfl⟩ := h
 exact ⟨v0, v1, p0, p1, rfl, by simp [List.append_assoc], e0, e1⟩
theorem Routes_cells {W0 : World} {cs : List Value} {bs : List UInt8} (h : Enc W0 sRoutes cs bs) : ∃ (v0 v1 v2 v3 v4 : Value) (b0 b1 b2 b3 b4 : List UInt8), cs = [v0, v1, v2, v3, v4] ∧ bs = b0 ++ (b1 ++ (b2 ++ (b3 ++ b4))) ∧ Enc W0 .int [v0] b0 ∧ Enc W0 .int [v1] b1 ∧ Enc W0 (.list sOwner) [v2] b2 ∧ Enc W0 .int [v3] b3 ∧ Enc W0 .data [v4] b4 := by
 unfold sRoutes at h
 obtain ⟨c0, r0, p0, q0, rfl, rfl, f0, h⟩ := h
 obtain ⟨v0, rfl⟩ := one_of f0 rfl
 have e0 := f0
 obtain ⟨c1, r1, p1, q1, rfl, rfl, f1, h⟩ := h
 obtain ⟨v1, rfl⟩ := one_of f1 rfl
 have e1 := f1
 obtain ⟨c2, r2, p2, q2, rfl, rfl, f2, h⟩ := h
 obtain ⟨v2, rfl⟩ := one_of f2 rfl
 have e2 := f2
 obtain ⟨c3, r3, p3, q3, rfl, rfl, f3, h⟩ := h
 obtain ⟨v3, rfl⟩ := one_of f3 rfl
 have e3 := f3
 obtain ⟨c4, r4, p4, q4, rfl, rfl, f4, h⟩ := h
 obtain ⟨v4, rfl⟩ := one_of f4 rfl
 have e4 := f4
 obtain ⟨rfl, rfl⟩ := h
 exact ⟨v0, v1, v2, v3, v4, p0, p1, p2, p3, p4, rfl, by simp [List.append_assoc], e0, e1, e2, e3, e4⟩
theorem Reply_cells {W0 : World} {cs : List Value} {bs : List UInt8} (h : Enc W0 sReply cs bs) : ∃ (v0 v1 v2 v3 v4 v5 v6 v7 v8 v9 v10 v11 v12 v13 v14 : Value) (b0 b1 b2 b3 b4 b5 b6 b7 b8 b9 b10 b11 b12 b13 b14 : List UInt8), cs = [v0, v1, v2, v3, v4, v5, v6, v7, v8, v9, v10, v11, v12, v13, v14] ∧ bs = b0 ++ (b1 ++ (b2 ++ (b3 ++ (b4 ++ (b5 ++ (b6 ++ (b7 ++ (b8 ++ (b9 ++ (b10 ++ (b11 ++ (b12 ++ (b13 ++ b14))))))))))))) ∧ Enc W0 .int [v0] b0 ∧ Enc W0 .num [v1] b1 ∧ Enc W0 .int [v2] b2 ∧ Enc W0 .bool [v3] b3 ∧ Enc W0 (.list sPair) [v4] b4 ∧ Enc W0 (.list .num) [v5] b5 ∧ Enc W0 .int [v6] b6 ∧ Enc W0 .int [v7] b7 ∧ Enc W0 (.list sTable) [v8] b8 ∧ Enc W0 (.list sIndex) [v9] b9 ∧ Enc W0 .int [v10] b10 ∧ Enc W0 .int [v11] b11 ∧ Enc W0 (.list sOwner) [v12] b12 ∧ Enc W0 .int [v13] b13 ∧ Enc W0 .data [v14] b14 := by
 unfold sReply at h
 obtain ⟨c0, r0, p0, q0, rfl, rfl, f0, h⟩ := h
 obtain ⟨v0, rfl⟩ := one_of f0 rfl
 have e0 := f0
 obtain ⟨c1, r1, p1, q1, rfl, rfl, f1, h⟩ := h
 obtain ⟨v1, rfl⟩ := one_of f1 rfl
 have e1 := f1
 obtain ⟨c2, r2, p2, q2, rfl, rfl, f2, h⟩ := h
 obtain ⟨v2, rfl⟩ := one_of f2 rfl
 have e2 := f2
 obtain ⟨c3, r3, p3, q3, rfl, rfl, f3, h⟩ := h
 obtain ⟨v3, rfl⟩ := one_of f3 rfl
 have e3 := f3
 obtain ⟨c4, r4, p4, q4, rfl, rfl, f4, h⟩ := h
 obtain ⟨v4, rfl⟩ := one_of f4 rfl
 have e4 := f4
 obtain ⟨c5, r5, p5, q5, rfl, rfl, f5, h⟩ := h
 obtain ⟨v5, rfl⟩ := one_of f5 rfl
 have e5 := f5
 obtain ⟨c6, r6, p6, q6, rfl, rfl, f6, h⟩ := h
 obtain ⟨v6, v7, v8, v9, b6, b7, b8, b9, rfl, rfl, e6, e7, e8, e9⟩ := Catalog_cells f6
 obtain ⟨c7, r7, p7, q7, rfl, rfl, f7, h⟩ := h
 obtain ⟨v10, v11, v12, v13, v14, b10, b11, b12, b13, b14, rfl, rfl, e10, e11, e12, e13, e14⟩ := Routes_cells f7
 obtain ⟨rfl, rfl⟩ := h
 exact ⟨v0, v1, v2, v3, v4, v5, v6, v7, v8, v9, v10, v11, v12, v13, v14, p0, p1, p2, p3, p4, p5, b6, b7, b8, b9, b10, b11, b12, b13, b14, rfl, by simp [List.append_assoc], e0, e1, e2, e3, e4, e5, e6, e7, e8, e9, e10, e11, e12, e13, e14⟩
theorem Set_cells {W0 : World} {cs : List Value} {bs : List UInt8} (h : Enc W0 sSet cs bs) : ∃ (v0 v1 v2 v3 : Value) (b0 b1 b2 b3 : List UInt8), cs = [v0, v1, v2, v3] ∧ bs = b0 ++ (b1 ++ (b2 ++ b3)) ∧ Enc W0 .int [v0] b0 ∧ Enc W0 .int [v1] b1 ∧ Enc W0 .int [v2] b2 ∧ Enc W0 .name [v3] b3 := by
 unfold sSet at h
 obtain ⟨c0, r0, p0, q0, rfl, rfl, f0, h⟩ := h
 obtain ⟨v0, rfl⟩ := one_of f0 rfl
 have e0 := f0
 obtain ⟨c1, r1, p1, q1, rfl, rfl, f1, h⟩ := h
 obtain ⟨v1, v2, v3, b1, b2, b3, rfl, rfl, e1, e2, e3⟩ := Value_cells f1
 obtain ⟨rfl, rfl⟩ := h
 exact ⟨v0, v1, v2, v3, p0, b1, b2, b3, rfl, by simp [List.append_assoc], e0, e1, e2, e3⟩
theorem Op_cells {W0 : World} {cs : List Value} {bs : List UInt8} (h : Enc W0 sOp cs bs) : ∃ (v0 v1 v2 v3 v4 v5 v6 v7 v8 v9 v10 : Value) (b0 b1 b2 b3 b4 b5 b6 b7 b8 b9 b10 : List UInt8), cs = [v0, v1, v2, v3, v4, v5, v6, v7, v8, v9, v10] ∧ bs = b0 ++ (b1 ++ (b2 ++ (b3 ++ (b4 ++ (b5 ++ (b6 ++ (b7 ++ (b8 ++ (b9 ++ b10))))))))) ∧ Enc W0 .int [v0] b0 ∧ Enc W0 .name [v1] b1 ∧ Enc W0 .name [v2] b2 ∧ Enc W0 (.list sValue) [v3] b3 ∧ Enc W0 (.list sValue) [v4] b4 ∧ Enc W0 (.list sSet) [v5] b5 ∧ Enc W0 (.list sValue) [v6] b6 ∧ Enc W0 (.list sValue) [v7] b7 ∧ Enc W0 .int [v8] b8 ∧ Enc W0 .bool [v9] b9 ∧ Enc W0 (.list .data) [v10] b10 := by
 unfold sOp at h
 obtain ⟨c0, r0, p0, q0, rfl, rfl, f0, h⟩ := h
 obtain ⟨v0, rfl⟩ := one_of f0 rfl
 have e0 := f0
 obtain ⟨c1, r1, p1, q1, rfl, rfl, f1, h⟩ := h
 obtain ⟨v1, rfl⟩ := one_of f1 rfl
 have e1 := f1
 obtain ⟨c2, r2, p2, q2, rfl, rfl, f2, h⟩ := h
 obtain ⟨v2, rfl⟩ := one_of f2 rfl
 have e2 := f2
 obtain ⟨c3, r3, p3, q3, rfl, rfl, f3, h⟩ := h
 obtain ⟨v3, rfl⟩ := one_of f3 rfl
 have e3 := f3
 obtain ⟨c4, r4, p4, q4, rfl, rfl, f4, h⟩ := h
 obtain ⟨v4, rfl⟩ := one_of f4 rfl
 have e4 := f4
 obtain ⟨c5, r5, p5, q5, rfl, rfl, f5, h⟩ := h
 obtain ⟨v5, rfl⟩ := one_of f5 rfl
 have e5 := f5
 obtain ⟨c6, r6, p6, q6, rfl, rfl, f6, h⟩ := h
 obtain ⟨v6, rfl⟩ := one_of f6 rfl
 have e6 := f6
 obtain ⟨c7, r7, p7, q7, rfl, rfl, f7, h⟩ := h
 obtain ⟨v7, rfl⟩ := one_of f7 rfl
 have e7 := f7
 obtain ⟨c8, r8, p8, q8, rfl, rfl, f8, h⟩ := h
 obtain ⟨v8, rfl⟩ := one_of f8 rfl
 have e8 := f8
 obtain ⟨c9, r9, p9, q9, rfl, rfl, f9, h⟩ := h
 obtain ⟨v9, rfl⟩ := one_of f9 rfl
 have e9 := f9
 obtain ⟨c10, r10, p10, q10, rfl, rfl, f10, h⟩ := h
 obtain ⟨v10, rfl⟩ := one_of f10 rfl
 have e10 := f10
 obtain ⟨rfl, rfl⟩ := h
 exact ⟨v0, v1, v2, v3, v4, v5, v6, v7, v8, v9, v10, p0, p1, p2, p3, p4, p5, p6, p7, p8, p9, p10, rfl, by simp [List.append_assoc], e0, e1, e2, e3, e4, e5, e6, e7, e8, e9, e10⟩
theorem Ask_cells {W0 : World} {cs : List Value} {bs : List UInt8} (h : Enc W0 sAsk cs bs) : ∃ (v0 v1 v2 v3 v4 v5 v6 v7 v8 v9 v10 v11 v12 v13 v14 v15 : Value) (b0 b1 b2 b3 b4 b5 b6 b7 b8 b9 b10 b11 b12 b13 b14 b15 : List UInt8), cs = [v0, v1, v2, v3, v4, v5, v6, v7, v8, v9, v10, v11, v12, v13, v14, v15] ∧ bs = b0 ++ (b1 ++ (b2 ++ (b3 ++ (b4 ++ (b5 ++ (b6 ++ (b7 ++ (b8 ++ (b9 ++ (b10 ++ (b11 ++ (b12 ++ (b13 ++ (b14 ++ b15)))))))))))))) ∧ Enc W0 .int [v0] b0 ∧ Enc W0 (.list sOp) [v1] b1 ∧ Enc W0 .int [v2] b2 ∧ Enc W0 .name [v3] b3 ∧ Enc W0 (.list sColumn) [v4] b4 ∧ Enc W0 (.list .int) [v5] b5 ∧ Enc W0 .int [v6] b6 ∧ Enc W0 .int [v7] b7 ∧ Enc W0 .name [v8] b8 ∧ Enc W0 (.list .int) [v9] b9 ∧ Enc W0 .bool [v10] b10 ∧ Enc W0 .int [v11] b11 ∧ Enc W0 .bool [v12] b12 ∧ Enc W0 .name [v13] b13 ∧ Enc W0 .int [v14] b14 ∧ Enc W0 .data [v15] b15 := by
 unfold sAsk at h
 obtain ⟨c0, r0, p0, q0, rfl, rfl, f0, h⟩ := h
 obtain ⟨v0, rfl⟩ := one_of f0 rfl
 have e0 := f0
 obtain ⟨c1, r1, p1, q1, rfl, rfl, f1, h⟩ := h
 obtain ⟨v1, rfl⟩ := one_of f1 rfl
 have e1 := f1
 obtain ⟨c2, r2, p2, q2, rfl, rfl, f2, h⟩ := h
 obtain ⟨v2, v3, v4, v5, b2, b3, b4, b5, rfl, rfl, e2, e3, e4, e5⟩ := Table_cells f2
 obtain ⟨c3, r3, p3, q3, rfl, rfl, f3, h⟩ := h
 obtain ⟨v6, v7, v8, v9, v10, v11, v12, b6, b7, b8, b9, b10, b11, b12, rfl, rfl, e6, e7, e8, e9, e10, e11, e12⟩ := Index_cells f3
 obtain ⟨c4, r4, p4, q4, rfl, rfl, f4, h⟩ := h
 obtain ⟨v13, rfl⟩ := one_of f4 rfl
 have e13 := f4
 obtain ⟨c5, r5, p5, q5, rfl, rfl, f5, h⟩ := h
 obtain ⟨v14, rfl⟩ := one_of f5 rfl
 have e14 := f5
 obtain ⟨c6, r6, p6, q6, rfl, rfl, f6, h⟩ := h
 obtain ⟨v15, rfl⟩ := one_of f6 rfl
 have e15 := f6
 obtain ⟨rfl, rfl⟩ := h
 exact ⟨v0, v1, v2, v3, v4, v5, v6, v7, v8, v9, v10, v11, v12, v13, v14, v15, p0, p1, b2, b3, b4, b5, b6, b7, b8, b9, b10, b11, b12, p4, p5, p6, rfl, by simp [List.append_assoc], e0, e1, e2, e3, e4, e5, e6, e7, e8, e9, e10, e11, e12, e13, e14, e15⟩
theorem Call_cells {W0 : World} {cs : List Value} {bs : List UInt8} (h : Enc W0 sCall cs bs) : ∃ (v0 v1 v2 : Value) (b0 b1 b2 : List UInt8), cs = [v0, v1, v2] ∧ bs = b0 ++ (b1 ++ b2) ∧ Enc W0 .num [v0] b0 ∧ Enc W0 .num [v1] b1 ∧ Enc W0 .data [v2] b2 := by
 unfold sCall at h
 obtain ⟨c0, r0, p0, q0, rfl, rfl, f0, h⟩ := h
 obtain ⟨v0, rfl⟩ := one_of f0 rfl
 have e0 := f0
 obtain ⟨c1, r1, p1, q1, rfl, rfl, f1, h⟩ := h
 obtain ⟨v1, rfl⟩ := one_of f1 rfl
 have e1 := f1
 obtain ⟨c2, r2, p2, q2, rfl, rfl, f2, h⟩ := h
 obtain ⟨v2, rfl⟩ := one_of f2 rfl
 have e2 := f2
 obtain ⟨rfl, rfl⟩ := h
 exact ⟨v0, v1, v2, p0, p1, p2, rfl, by simp [List.append_assoc], e0, e1, e2⟩
end Go.Proofs.YtmdgifmigikffaaGreat
namespace Go.Proofs.YtmdgifmigikffaaGreat
open Go.RowKit Go.Deep
abbrev Rst := List UInt8 × Int
def rdLF (f : Rst → List UInt8 × Rst) : Nat → Rst → Nat × List UInt8 × Rst
 | 0, st => (0, [], st)
 | n + 1, st => if (f st).2.2 ≠ 0 then (1, (f st).1, (f st).2) else ((rdLF f n (f st).2).1 + 1, (f st).1 ++ (rdLF f n (f st).2).2.1, (rdLF f n (f st).2).2.2)
def rdF : Sh → Rst → List UInt8 × Rst
 | .num, st => (numL (lookS maxU st.1 st.2).1, st.1.drop (lookS maxU st.1 st.2).2.1, (lookS maxU st.1 st.2).2.2)
 | .int, st => (numL (zig (unzig (lookS maxU st.1 st.2).1)), st.1.drop (lookS maxU st.1 st.2).2.1, (lookS maxU st.1 st.2).2.2)
 | .bool, st => (numL (if decide ((lookS 1 st.1 st.2).1 = 1) then 1 else 0), st.1.drop (lookS 1 st.1 st.2).2.1, (lookS 1 st.1 st.2).2.2)
 | .data, st => (textL (textS 65536 st.1 st.2).1, st.1.drop (textS 65536 st.1 st.2).2.1, (textS 65536 st.1 st.2).2.2)
 | .name, st => (textL (textS 65536 st.1 st.2).1, st.1.drop (textS 65536 st.1 st.2).2.1, (textS 65536 st.1 st.2).2.2)
 | .list s, st => (numL (rdLF (rdF s) (lookS 5000 st.1 st.2).1 (st.1.drop (lookS 5000 st.1 st.2).2.1, (lookS 5000 st.1 st.2).2.2)).1 ++ (rdLF (rdF s) (lookS 5000 st.1 st.2).1 (st.1.drop (lookS 5000 st.1 st.2).2.1, (lookS 5000 st.1 st.2).2.2)).2.1,
  (rdLF (rdF s) (lookS 5000 st.1 st.2).1 (st.1.drop (lookS 5000 st.1 st.2).2.1, (lookS 5000 st.1 st.2).2.2)).2.2)
 | .nil, st => ([], st)
 | .cons s r, st => ((rdF s st).1 ++ (rdF r (rdF s st).2).1, (rdF r (rdF s st).2).2)
def Thaw (W : World) (k : Nat) : Prop := ∃ cs t, W.heap[k]? = some (.cells cs t (0, 0))
theorem Thaw.keep {X : Nat → Prop} {W W' : World} {k : Nat} (h : Thaw W k) (hk : Keep X W W') (hx : ¬ X k) : Thaw W' k := by
 obtain ⟨cs, t, h⟩ := h; exact ⟨cs, t, (hk.block k (lt_of_block h) hx).trans h⟩
theorem Thaw.own {W : World} {b : Nat} {e : TypeId} {z n : Nat} {v : Value} {xs : List Value} (h : W.ownsRow b e z v n xs) {k : Nat} (hk : blk v = some k) : Thaw W k := by
 rcases h.2 with ⟨rfl, -⟩ | ⟨g, cap, cur, rfl, -, h3, -⟩
 · cases hk
 · obtain rfl : g = k := Option.some.inj hk
   exact ⟨_, _, h3⟩
def EncN (N : Nat → Prop) (W : World) : Sh → List Value → List UInt8 → Prop
 | .num, cs, bs => Enc W .num cs bs
 | .int, cs, bs => Enc W .int cs bs
 | .bool, cs, bs => Enc W .bool cs bs
 | .data, cs, bs => ∃ x l, cs = [x] ∧ x.oneCell' = true ∧ Rd W x l ∧ l.length ≤ 1048576 ∧ bs = textL l ∧ ∀ k, blk x = some k → N k ∧ Thaw W k
 | .name, cs, bs => Enc W .name cs bs
 | .list s, cs, bs => ∃ (a : Option Addr) (c : Nat) (M : List (List Value × List UInt8)), cs = [.slice a M.length c] ∧ Rws s.wid W (.slice a M.length c) (M.map (·.1)) ∧ (∀ m ∈ M, EncN N W s m.1 m.2) ∧ M.length ≤ 1048576 ∧ bs = numL M.length ++ (M.map (·.2)).flatten ∧ ∀ k, blk (.slice a M.length c) = some k → N k
 | .nil, cs, bs => cs = [] ∧ bs = []
 | .cons s r, cs, bs => ∃ c1 c2 b1 b2, cs = c1 ++ c2 ∧ bs = b1 ++ b2 ∧ EncN N W s c1 b1 ∧ EncN N W r c2 b2
theorem EncN.enc {N : Nat → Prop} {W : World} : ∀ (s : Sh) {cs : List Value} {bs : List UInt8}, EncN N W s cs bs → Enc W s cs bs
 | .num, cs, bs, h => h
 | .int, cs, bs, h => h
 | .bool, cs, bs, h => h
 | .data, cs, bs, h => by obtain ⟨x, l, h1, h2, h3, h4, h5, _⟩ := h; exact ⟨x, l, h1, h2, h3, h4, h5⟩
 | .name, cs, bs, h => h
 | .list s, cs, bs, h => by
  obtain ⟨a, c, M, h1, h2, h3, h4, h5, _⟩ := h
  exact ⟨a, c, M, h1, h2, fun m hm => EncN.enc s (h3 m hm), h4, h5⟩
 | .nil, cs, bs, h => h
 | .cons s r, cs, bs, h => by
  obtain ⟨c1, c2, b1, b2, h1, h2, h3, h4⟩ := h
  exact ⟨c1, c2, b1, b2, h1, h2, EncN.enc s h3, EncN.enc r h4⟩
theorem EncN.mono {N N' : Nat → Prop} {W : World} (hN : ∀ k, N k → N' k) : ∀ (s : Sh) {cs : List Value} {bs : List UInt8}, EncN N W s cs bs → EncN N' W s cs bs
 | .num, cs, bs, h => h
 | .int, cs, bs, h => h
 | .bool, cs, bs, h => h
 | .data, cs, bs, h => by obtain ⟨x, l, h1, h2, h3, h4, h5, h6⟩ := h; exact ⟨x, l, h1, h2, h3, h4, h5, fun k hk => ⟨hN k (h6 k hk).1, (h6 k hk).2⟩⟩
 | .name, cs, bs, h => h
 | .list s, cs, bs, h => by
  obtain ⟨a, c, M, h1, h2, h3, h4, h5, h6⟩ := h
  exact ⟨a, c, M, h1, h2, fun m hm => EncN.mono hN s (h3 m hm), h4, h5, fun k hk => hN k (h6 k hk)⟩
 | .nil, cs, bs, h => h
 | .cons s r, cs, bs, h => by
  obtain ⟨c1, c2, b1, b2, h1, h2, h3, h4⟩ := h
  exact ⟨c1, c2, b1, b2, h1, h2, EncN.mono hN s h3, EncN.mono hN r h4⟩
theorem EncN.keep {N X : Nat → Prop} {W W' : World} (hk : Keep X W W') (hx : ∀ k, N k → ¬ X k) : ∀ (s : Sh) {cs : List Value} {bs : List UInt8}, EncN N W s cs bs → EncN N W' s cs bs
 | .num, cs, bs, h => h
 | .int, cs, bs, h => h
 | .bool, cs, bs, h => h
 | .data, cs, bs, h => by obtain ⟨x, l, h1, h2, h3, h4, h5, h6⟩ := h; exact ⟨x, l, h1, h2, h3.keep hk (fun _ k hb => hx k (h6 k hb).1), h4, h5, fun k hb => ⟨(h6 k hb).1, (h6 k hb).2.keep hk (hx k (h6 k hb).1)⟩⟩
 | .name, cs, bs, h => h
 | .list s, cs, bs, h => by
  obtain ⟨a, c, M, h1, h2, h3, h4, h5, h6⟩ := h
  exact ⟨a, c, M, h1, h2.keep hk (fun _ k hb => hx k (h6 k hb)), fun m hm => EncN.keep hk hx s (h3 m hm), h4, h5, h6⟩
 | .nil, cs, bs, h => h
 | .cons s r, cs, bs, h => by
  obtain ⟨c1, c2, b1, b2, h1, h2, h3, h4⟩ := h
  exact ⟨c1, c2, b1, b2, h1, h2, EncN.keep hk hx s h3, EncN.keep hk hx r h4⟩
theorem EncN.hop {D P Q : Nat} {u u' : World} {s : Sh} {cs : List Value} {b : List UInt8} (hd : Q ≤ D) (hk : Keep (fun k => k = Q ∨ k = P) u u') (h : EncN (fun k => D < k ∧ k ≠ P ∧ k < u.heap.size) u s cs b) : EncN (fun k => D < k ∧ k ≠ P ∧ k < u'.heap.size) u' s cs b :=
 EncN.mono (fun k h9 => ⟨h9.1, h9.2.1, Nat.lt_of_lt_of_le h9.2.2 hk.size⟩) s (EncN.keep hk (fun k h9 e => by have e9 : k = Q ∨ k = P := e; have := h9.1; have := h9.2.1; omega) s h)
theorem EncN.hopc {B R : Nat} {u u' : World} {s : Sh} {cs : List Value} {b : List UInt8} (hd : R < B) (hk : Keep (fun k => k = R ∨ k = B) u u') (h : EncN (fun j => B < j ∧ j < u.heap.size) u s cs b) : EncN (fun j => B < j ∧ j < u'.heap.size) u' s cs b :=
 EncN.mono (fun k h9 => ⟨h9.1, Nat.lt_of_lt_of_le h9.2 hk.size⟩) s (EncN.keep hk (fun k h9 e => by have e9 : k = R ∨ k = B := e; have := h9.1; omega) s h)
theorem EncN.top {B : Nat} {u u' : World} {o : Obj} {s : Sh} {cs : List Value} {b : List UInt8} (hB : u.heap[B]? = some o) (h : EncN (fun k => u.heap.size ≤ k ∧ k < u'.heap.size) u' s cs b) : EncN (fun j => B < j ∧ j < u'.heap.size) u' s cs b :=
 EncN.mono (fun k h9 => ⟨Nat.lt_of_lt_of_le (lt_of_block hB) h9.1, h9.2⟩) s h
theorem RAt.keepK {X : Nat → Prop} {w w' : World} {R : Nat} {l : List UInt8} {e : Int} (h : RAt w R l e) (hk : Keep X w w') (hx : ∀ k, X k → R < k) : RAt w' R l e := by
 obtain ⟨ao, c, h1, h2, h3⟩ := h
 refine ⟨ao, c, (hk.block R (lt_of_block h1) (fun hR => by have := hx R hR; omega)).trans h1, h2.keep hk (fun _ k hb hX => ?_), h3⟩
 have a1 := hx k hX
 have a2 := h3 k hb
 omega
def RdP (s : Sh) (R : Nat) (w : World) (st : Rst) (cs : List Value) (w' : World) : Prop :=
 EncN (fun k => w.heap.size ≤ k ∧ k < w'.heap.size) w' s cs (rdF s st).1 ∧ RAt w' R (rdF s st).2.1 (rdF s st).2.2 ∧ Keep (fun k => k = R) w w'
theorem unzig_wf {v : Nat} (h : v < 2 ^ 64) : (Lit.int .i64 (unzig v)).wf = true := by
 have : -9223372036854775808 ≤ unzig v ∧ unzig v < 9223372036854775808 := by unfold unzig; split <;> omega
 simp only [Lit.wf, Bool.and_eq_true, decide_eq_true_eq]
 exact ⟨this.1, by show unzig v ≤ 9223372036854775807; omega⟩
theorem textS_len (m : Nat) (l : List UInt8) (e : Int) : (textS m l e).1.length ≤ m := by
 unfold textS
 split
 · simp
 · split
   · simp
   · rw [List.length_take]
     have := lookS_most m l e
     omega
section
variable {w : World} {R : Nat} {st : Rst}
set_option maxHeartbeats 1000000 in
theorem rwhole_any (h : RAt w R st.1 st.2) : Calls Tryz.prog 81 #[.agg #[.pointer (some ⟨R, 0, none⟩)]] w (fun en w' => ∃ v, en = .returned v ∧ RdP .int R w st [v] w') := by
 have hb : Below w.heap.size w (w.alloc (.cells #[.pointer (some ⟨R, 0, none⟩)] 79)) := (Below.refl _ _).alloc (Nat.le_refl _) _
 have hz := (one_cell (heap_alloc_new w (.cells #[.pointer (some ⟨R, 0, none⟩)] 79))).1
 have H := hid (h.old hb)
 have HB := hid hb
 clear h hb
 go_enter Tryz.func81, Tryz.ntmps81
 go_upto_region 1 with fail
 generalize w.alloc (.cells #[.pointer (some ⟨R, 0, none⟩)] 79) = w1 at *
 go_wp2_with (first | (go_at_call 139; refine (intR_any w1 R st.1 st.2 H.out).mono ?_; rintro en w2 ⟨rfl, h2, g2⟩; have H2 := hid h2; have G2 := hid g2; clear h2 g2))
 go_ret
 exact ⟨_, rfl, ⟨_, unzig_wf (lookS_lt _ _ _), rfl, rfl⟩, H2.out, (Keep.of_below HB.out).trans (Keep.of_grown G2.out (fun k e => by cases e; rfl))⟩
set_option maxHeartbeats 1000000 in
theorem rflag_any (h : RAt w R st.1 st.2) : Calls Tryz.prog 83 #[.agg #[.pointer (some ⟨R, 0, none⟩)]] w (fun en w' => ∃ v, en = .returned v ∧ RdP .bool R w st [v] w') := by
 have hb : Below w.heap.size w (w.alloc (.cells #[.pointer (some ⟨R, 0, none⟩)] 79)) := (Below.refl _ _).alloc (Nat.le_refl _) _
 have hz := (one_cell (heap_alloc_new w (.cells #[.pointer (some ⟨R, 0, none⟩)] 79))).1
 have H := hid (h.old hb)
 have HB := hid hb
 clear h hb
 go_enter Tryz.func83, Tryz.ntmps83
 go_upto_region 1 with fail
 generalize w.alloc (.cells #[.pointer (some ⟨R, 0, none⟩)] 79) = w1 at *
 obtain ⟨q, hq⟩ : ∃ q : Bool, q = decide ((lookS 1 st.1 st.2).1 = 1) := ⟨_, rfl⟩
 have HQ : Hid (((((lookS 1 st.1 st.2).1 : Nat) : Int) == 1) = q) := hid (by rw [hq, Bool.eq_iff_iff]; simp only [beq_iff_eq, decide_eq_true_eq]; omega)
 go_wp2_with (first | (go_at_call 140; refine (smallR_any w1 R st.1 st.2 1 (by decide) H.out).mono ?_; rintro en w2 ⟨rfl, h2, g2⟩; have H2 := hid h2; have G2 := hid g2; clear h2 g2))
 go_ret
 exact ⟨_, rfl, ⟨q, by rw [← HQ.out]; rfl, by rw [hq]; rfl⟩, H2.out, (Keep.of_below HB.out).trans (Keep.of_grown G2.out (fun k e => by cases e; rfl))⟩
set_option maxHeartbeats 1000000 in
theorem rname_any (h : RAt w R st.1 st.2) (hl : st.1.length ≤ 140737488355328) : Calls Tryz.prog 97 #[.agg #[.pointer (some ⟨R, 0, none⟩)]] w (fun en w' => ∃ v, en = .returned v ∧ RdP .name R w st [v] w') := by
 have hb : Below w.heap.size w (w.alloc (.cells #[.pointer (some ⟨R, 0, none⟩)] 79)) := (Below.refl _ _).alloc (Nat.le_refl _) _
 have hz := (one_cell (heap_alloc_new w (.cells #[.pointer (some ⟨R, 0, none⟩)] 79))).1
 have H := hid (h.old hb)
 have HB := hid hb
 clear h hb
 go_enter Tryz.func97, Tryz.ntmps97
 go_upto_region 1 with fail
 generalize w.alloc (.cells #[.pointer (some ⟨R, 0, none⟩)] 79) = w1 at *
 have C := textR_any w1 R st.1 st.2 65536 (by decide) H.out hl
 have CH := hid C
 clear C
 go_wp2_with (first | (go_at_call 136; refine CH.out.mono ?_; rintro en w2 ⟨ao, c, rfl, ho, h2, g2⟩; have HC := (Rd.own ho).conv (P := Tryz.prog) 22 9 5 Tryz.underlying22 Tryz.underlying5 Tryz.underlying9; have H2 := hid h2; have G2 := hid g2; clear ho h2 g2))
 go_ret
 exact ⟨_, rfl, ⟨_, rfl, Nat.le_trans (textS_len _ _ _) (by decide), rfl⟩, H2.out, (Keep.of_below HB.out).trans (Keep.of_grown G2.out (fun k e => by cases e; rfl))⟩
end
end Go.Proofs.YtmdgifmigikffaaGreat
namespace Go.Proofs.YtmdgifmigikffaaGreat
open Go.RowKit Go.Deep
theorem exec_load {P : Program} {ρ : Operand → Value} {o : Oper} {t : TypeId} {x : Operand} {v : Value} {W : World} (ho : o.op = .load t x) (h : (Instr.loadAt t (ρ x)).run P W = .ok v W) : (execOp ρ o).run P W = .ok (.value v) W := by
 unfold execOp
 simp only [ho, Sem.run_bind, h, Result.andThen_ok]
 rfl
theorem cells_load {V : World} {B : Nat} {cs : List Value} {t : TypeId} {d : TypeDesc} (hc : ∀ (i : Nat) u, cs[i]? = some u → V.cell? ⟨B, i, none⟩ = some u) (hu : Tryz.prog.underlying t = some d) (hd : d.isRow = true) (hi : (Tryz.prog.info? t).map (·.size) = some cs.length) :
 (Instr.loadAt t (.pointer (some ⟨B, 0, none⟩))).run Tryz.prog V = .ok (.agg cs.toArray) V :=
 run_loadAt_mid V B 0 t cs d (fun j v hv => by rw [Nat.zero_add]; exact hc j v hv) hu hd hi
end Go.Proofs.YtmdgifmigikffaaGreat
