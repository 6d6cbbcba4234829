import Derived.Test.YtddnleofflobhaaGreatDoorRows
import Derived.WalkKit
import Derived.WalkSpells
import Derived.WalkLawsBesides
import Derived.Laws.AppendOwnNone
import Derived.BigQuiet
import Derived.Deep.QuietTactic
import Derived.Deep.MidRow
import Derived.Laws.MakeOwn
import Derived.Deep.CutBlock
import Derived.Deep.CutRange
import Derived.Sort.CutIn
import Derived.RangeFuncNested
import Derived.RangeFuncBound
import Derived.RangeFuncCalls
import Derived.RangeFuncLeaves
import Derived.RangeFuncBox
import Derived.Shelf.Abstract
import Derived.Shelf.RegionOpen
import Derived.OwnWalkIn
import Derived.TacticsInMore
import Derived.LoopNIn
import Derived.LoopIn
import Derived.OrdersIn
import Derived.LaidEql
import Derived.Stop.Asserts
import Derived.RowKitTokens
import Derived.Lib.Bytes
import Derived.Deep.RegionHeld3
import Derived.Deep.WholeRow
import Derived.BigRegion
import Derived.Great.BuildSlice
import Derived.Deep.AppendLies
import Derived.StillTailTactics
import Derived.Deep.RegionLaw
import Derived.Great.FillDense
import Derived.Laws.Tables
import Derived.LoopN
import Derived.Deep.OwnRows
import Derived.OwnWalk
import Derived.Deep.Slices
import Derived.OpenShut
import Derived.Deep.RegionWith
import Derived.Lib.SliceRun
import Derived.Test.YtddnleofflobhaaGreatDoorVG1
import Derived.Test.YtddnleofflobhaaGreatDoorVG2
import Derived.Test.YtddnleofflobhaaGreatDoorVG3
import Derived.Test.YtddnleofflobhaaGreatDoorVG4
import Derived.Test.YtddnleofflobhaaGreatDoorVG5
import Derived.Test.YtddnleofflobhaaGreatDoorVG6
import Derived.Test.YtddnleofflobhaaGreatDoorVG7
import Derived.Test.YtddnleofflobhaaGreatDoorVG8
set_option linter.unusedVariables false
set_option linter.unusedSimpArgs false
set_option linter.unusedVariables false
set_option maxRecDepth 100000
namespace Go.Proofs.YtddnleofflobhaaGreatDoor
open Go.RowKit

/-- 'append(v, x...)' as a step of a region; the row lies where it lay, or in a new block. -/
theorem wp_rapp3 {P : Program} {w : World} {ops : Array Oper} {rest : List Oper} {o : Oper} {a : Act} {Q : Exit → Act → World → Prop} (hgd : Region.wanted o (yielded ops a.tmps) = true) (s x : Operand) (t : TypeId)
    (ho : o.op = .call { callee := .builtin .append, args := #[s, x], argTypes := #[t, t] })
    (base size bytes : Nat) (e : TypeId) (ht : P.underlying t = some (.slice e)) (z : Value) (hinfo : (P.info? e).map (fun i => (i.zero, i.size, i.bytes)) = some (some z, size, bytes)) (hzs : z.cells.size = size) (hsz : 0 < size)
    (v : Value) (n : Nat) (xs : List Value) (hs : a.eval s = v) (hown : w.ownsRow base e size v n xs)
    (y : Value) (L : List (List Value)) (hx : a.eval x = y) (hr : Rws size w y L) (hn : (n + L.length) * bytes ≤ 140737488355328) (hm : n + L.length ≤ maxLen) (hbase : base ≤ w.heap.size)
    (h : ∀ v' w', w'.ownsRow base e size v' (n + L.length) (xs ++ L.flatten) → w.grownBy w' v.ownBlock → (∀ k, v'.ownBlock = some k → v.ownBlock = some k ∨ w.heap.size ≤ k) → wpList P ops Q rest (a.put o.dst v') w') : wpList P ops Q (o :: rest) a w := by
  refine wpList_step fun K hK => ?_
  rw [if_pos hgd]
  exact step_rapp s x t ho base size bytes e ht z hinfo hzs hsz v n xs hs hown y L hx hr hn hm hbase fun v' w' p q r => hK _ _ (h v' w' p q r)

theorem info_bs2 : (Tryz.prog.info? 25).map (fun i => (i.zero, i.size, i.bytes)) = some (some (.slice none 0 0), 1, 24) := info_bs

/-- A list of records of its own, from block B on. -/
structure Rown (B : Nat) (w : World) (y : Value) (R : List Rc) : Prop where
  row : w.ownsRow B 25 1 y R.length (R.map rcv)
  each : ∀ r ∈ R, Rd w (rcv r) r.b
  off : ∀ r ∈ R, r.b ≠ [] → ∀ a, r.a = some a → B ≤ a.block ∧ y.ownBlock ≠ some a.block

theorem Rown.nil (B : Nat) (w : World) : Rown B w (.slice none 0 0) [] := ⟨World.ownsRow_nil w B 25 1, (fun r hr => by cases hr), (fun r hr => by cases hr)⟩
theorem Rown.kept {B : Nat} {w w' : World} {y : Value} {R : List Rc} {X : Nat → Prop} (h : Rown B w y R) (hk : Keep X w w') (hx : ∀ k, B ≤ k → k < w.heap.size → ¬ X k) : Rown B w' y R :=
  ⟨own_keep h.row hk (fun k e => hx k (h.row.lt k e).1 (h.row.lt k e).2), fun r hr => (h.each r hr).keep hk (fun hne k hb e => by
    obtain ⟨a, ha, rfl⟩ := blk_of hb
    exact hx _ (h.off r hr hne a ha).1 (rd_block (h.each r hr) hne a ha) e), h.off⟩
theorem Rown.old {B : Nat} {w w' : World} {y : Value} {R : List Rc} (h : Rown B w y R) (hb : Below w.heap.size w w') : Rown B w' y R := h.kept (X := fun _ => False) (Keep.of_below hb) (fun _ _ _ h => h)

/-- What Records gives. -/
def RecordsA (R : List Rc) (w : World) (e : Ending) (w' : World) : Prop := ∃ y R', e = .returned y ∧ Rown w.heap.size w' y R' ∧ R'.map (·.b) = R.map (·.b) ∧ Below w.heap.size w w'

/-- One more record at the end. -/
theorem Rown.more {B : Nat} {w w' : World} {yo : Option Addr} {k yc : Nat} {v : Value} {R : List Rc} {r : Rc} {W0 : Nat} (h : Rown B w (.slice yo k yc) R) (hx : w.ownsRow W0 5 1 (rcv r) r.b.length (r.b.map bv)) (hW : B ≤ W0) (hy : ∀ j, (Value.slice yo k yc).ownBlock = some j → j < W0)
    (ho : w'.ownsRow B 25 1 v (R.length + 1) (R.map rcv ++ [rcv r])) (hg : w.grownBy w' (Value.slice yo k yc).ownBlock) (hf : ∀ j, v.ownBlock = some j → (Value.slice yo k yc).ownBlock = some j ∨ w.heap.size ≤ j) : Rown B w' v (R ++ [r]) := by
  have hk : Keep (fun j => (Value.slice yo k yc).ownBlock = some j) w w' := Keep.of_grown hg (fun _ e => e)
  have hrd : Rd w (rcv r) r.b := Rd.own hx
  have hra : ∀ a, r.a = some a → W0 ≤ a.block := fun a ha => (hx.lt a.block (by unfold rcv; rw [ha]; rfl)).1
  have hall : ∀ q ∈ R ++ [r], Rd w (rcv q) q.b ∧ (q.b ≠ [] → ∀ a, q.a = some a → B ≤ a.block ∧ (Value.slice yo k yc).ownBlock ≠ some a.block) := fun q hq => by
    rcases List.mem_append.1 hq with hq | hq
    · exact ⟨h.each q hq, h.off q hq⟩
    · obtain rfl := List.mem_singleton.1 hq
      exact ⟨hrd, fun _ a ha => ⟨Nat.le_trans hW (hra a ha), fun e => by have := hy _ e; have := hra a ha; omega⟩⟩
  refine ⟨by rw [List.length_append, List.map_append]; exact ho, fun q hq => (hall q hq).1.keep hk (fun hne j hb e => ?_), fun q hq hne a ha => ⟨((hall q hq).2 hne a ha).1, fun e => ?_⟩⟩
  · obtain ⟨a, ha, rfl⟩ := blk_of hb
    exact ((hall q hq).2 hne a ha).2 e
  · rcases hf _ e with e | e
    · exact ((hall q hq).2 hne a ha).2 e
    · have := rd_block (hall q hq).1 hne a ha
      omega

set_option maxHeartbeats 8000000 in
theorem records_ok {base : Nat} {w : World} {lb db sb n : Nat} {vw rv : Value} {S : List (List UInt8)} {Q : List Wr} {L : Ls} {R : List Rc} (h : Lg base w lb db sb n vw rv S Q L R) (hR : R.length ≤ 1000000) (hrl : ∀ r ∈ R, r.b.length ≤ 140737488355328) :
    Calls Tryz.prog 50 #[.pointer (some ⟨lb, 0, none⟩)] w (RecordsA R w) := by
  obtain ⟨c0, c1, c2, c3, c4, c5, -⟩ := h.l.cells
  obtain ⟨ao, c, rfl, hc1, hc2⟩ := h.r.form
  have hlen := fun W => run_len_slice (P := Tryz.prog) W 60 3 ao R.length c Tryz.underlying60
  have H := hid h
  clear h
  go_enter Tryz.func50, Tryz.ntmps50
  go_wp2_with fail
  clear c0 c1 c2 c3 c4 c5
  go_loopw [3, 13] (fun y i wr => ∃ (k : Nat) (R' : List Rc) (yo : Option Addr) (yc : Nat), k ≤ R.length ∧ i = .int .i64 (k : Int) ∧ y = .slice yo k yc ∧ Hid (Rown w.heap.size wr (.slice yo k yc) R') ∧ Hid (R'.map (·.b) = (R.take k).map (·.b)) ∧ Hid (Below w.heap.size w wr)) (fun _ i _ => R.length - (intOf i).toNat)
  case atStart => exact ⟨0, [], none, 0, by omega, rfl, rfl, Rown.nil _ _, by show _ = _; simp, Below.refl _ _⟩
  case round =>
    obtain ⟨k, R', yo, yc, hk, rfl, rfl, HO, HR', HB⟩ := hrel
    by_cases hlt : k < R.length
    · have hki : (k : Int) < (R.length : Int) := by omega
      have hv := List.getElem?_eq_getElem hlt
      generalize R[k]'_ = r at *
      have HOLD := hid (H.out.old HB.out)
      obtain ⟨g, o, rfl, hcell⟩ := HOLD.out.r.get hv
      have hrm := List.mem_of_getElem? hv
      have CC := hid (clone_any wr (rcv r) r.b (HOLD.out.r.each r hrm) (hrl r hrm))
      have hkc : (k : Int) < (c : Int) := by omega
      have HV := hid hv
      clear hv hrm
      unfold rcv at hcell CC
      go_wp2_with (first | (go_at_call 61; refine CC.out.mono ?_))
      rintro e w3 ⟨x, rfl, hx, hb3⟩
      obtain ⟨xo, xc, rfl⟩ := own_form hx
      have hO3 := HO.out.old hb3
      have HX3 := hid hx
      have HB3 := hid (HB.out.trans (hb3.mono HB.out.size))
      have HS3 := hid hb3.size
      have HS0 := hid HB.out.size
      have hba : Below w3.heap.size w3 (w3.alloc (.cells #[.slice xo r.b.length xc] 25)) := (Below.refl _ _).alloc (Nat.le_refl _) _
      have HO4 := hid (hO3.old hba)
      have HX4 := hid (own_old hx hba)
      have HB4 : Hid (Below w.heap.size w (w3.alloc (.cells #[.slice xo r.b.length xc] 25))) := HB3.out.trans (hba.mono HB3.out.size)
      have HR4 : Hid (Rws 1 (w3.alloc (.cells #[.slice xo r.b.length xc] 25)) (.slice (some ⟨w3.heap.size, 0, none⟩) 1 1) [[.slice xo r.b.length xc]]) := Rws.one (r := [.slice xo r.b.length xc]) rfl ⟨rfl, fun u hu => by obtain rfl := List.mem_singleton.1 hu; rfl⟩
      have HRL : Hid (R'.length = k) := by
        show _ = _
        have := congrArg List.length HR'.out
        simpa [Nat.min_eq_left hk] using this
      have HROW : Hid ((w3.alloc (.cells #[.slice xo r.b.length xc] 25)).ownsRow w.heap.size 25 1 (.slice yo k yc) k (R'.map rcv)) := by
        have := HO4.out.row
        rw [HRL.out] at this
        exact this
      clear hO3 hx hb3 hba
      go_wp2_with (first
        | (at_builtin; refine wp_rapp3 rfl _ _ 60 rfl w.heap.size 1 24 25 Tryz.underlying60 _ info_bs2 (by decide) (by decide) _ _ _ rfl HROW.out _ _ rfl HR4.out ?c1 ?c2 ?c3 ?_))
      case c1 => simp; omega
      case c2 => simp [maxLen]; omega
      case c3 => exact HB4.out.size
      intro v5 w5 o5 g5 hf5
      have HM := hid (Rown.more (r := ⟨xo, xc, r.b⟩) HO4.out HX4.out HS0.out (fun j e => (HO.out.row.lt j e).2) (by rw [HRL.out]; exact o5) g5 (by rw [show (w3.alloc (.cells #[.slice xo r.b.length xc] 25)).heap.size = w3.heap.size + 1 from by simp]; exact hf5))
      obtain ⟨vo, vc, rfl⟩ := own_form o5
      have HB5 : Hid (Below w.heap.size w w5) := HB4.out.grown g5 HB4.out.size (fun j e => (HO4.out.row.lt j e).1)
      clear o5 g5 hf5
      go_wp2_with fail
      go_roundw
      case rel => exact ⟨k + 1, R' ++ [⟨xo, xc, r.b⟩], vo, vc, by omega, by go_num, rfl, HM, by
        show _ = _
        rw [List.take_add_one, HV.out, List.map_append, List.map_append, HR'.out]
        rfl, HB5⟩
      case measure => first | (simp [intOf]; done) | (simp [intOf]; omega)
    · obtain rfl : k = R.length := by omega
      go_wp2_with fail
      go_ret
      exact ⟨_, R', rfl, HO.out, by rw [HR'.out, List.take_length], HB.out⟩
end Go.Proofs.YtddnleofflobhaaGreatDoor

set_option linter.unusedVariables false
set_option linter.unusedSimpArgs false
set_option maxRecDepth 100000
namespace Go.Proofs.YtddnleofflobhaaGreatDoor
open Go.RowKit

/-- An entry with its bytes. -/
structure En where
  t : Nat
  i : Nat
  r : Rc
def En.pe (e : En) : Pe := ⟨e.t, e.i, e.r.b⟩
def rowE (e : En) : List Value := [.int .u64 (e.t : Int), .int .u64 (e.i : Int), rcv e.r]
def Ents (w : World) (x : Value) (E : List En) : Prop := Rws 3 w x (E.map rowE) ∧ ∀ e ∈ E, Rd w (rcv e.r) e.r.b ∧ e.t < 18446744073709551616 ∧ e.i < 18446744073709551616 ∧ e.r.b.length ≤ 140737488355328
/-- A log. -/
structure Lo where
  ht : Nat
  hv : Int
  si : Nat
  st : Nat
  sd : Rc
  eo : Option Addr
  ec : Nat
  es : List En
def Lo.cs (l : Lo) : Array Value := #[.int .u64 (l.ht : Int), .int .i64 l.hv, .int .u64 (l.si : Int), .int .u64 (l.st : Int), .slice l.sd.a l.sd.b.length l.sd.c, .slice l.eo l.es.length l.ec]
def Lo.v (l : Lo) : Value := .agg #[.int .u64 (l.ht : Int), .int .i64 l.hv, .int .u64 (l.si : Int), .int .u64 (l.st : Int), .slice l.sd.a l.sd.b.length l.sd.c, .slice l.eo l.es.length l.ec]
def Lo.pl (l : Lo) : PL := ⟨l.ht, l.hv, l.si, l.st, l.sd.b, l.es.map En.pe⟩
structure LoAt (w : World) (l : Lo) : Prop where
  sd : Rd w (.slice l.sd.a l.sd.b.length l.sd.c) l.sd.b
  es : Ents w (.slice l.eo l.es.length l.ec) l.es
  ht : l.ht < 18446744073709551616
  si : l.si < 18446744073709551616
  st : l.st < 18446744073709551616
  hv : -9223372036854775808 ≤ l.hv ∧ l.hv < 9223372036854775808
  sl : l.sd.b.length ≤ 140737488355328
  el : l.es.length ≤ 140737488355328

/-- None of a log's memory lies in the blocks X. -/
def LoOff (l : Lo) (X : Nat → Prop) : Prop := (l.sd.b ≠ [] → ∀ a, l.sd.a = some a → ¬ X a.block) ∧ (∀ e ∈ l.es, e.r.b ≠ [] → ∀ a, e.r.a = some a → ¬ X a.block) ∧ (l.es ≠ [] → ∀ a, l.eo = some a → ¬ X a.block)
theorem Ents.old {w w' : World} {x : Value} {E : List En} (h : Ents w x E) (hb : Below w.heap.size w w') : Ents w' x E := ⟨h.1.old hb, fun e he => ⟨(h.2 e he).1.old hb, (h.2 e he).2⟩⟩
theorem LoAt.old {w w' : World} {l : Lo} (h : LoAt w l) (hb : Below w.heap.size w w') : LoAt w' l := ⟨h.sd.old hb, h.es.old hb, h.ht, h.si, h.st, h.hv, h.sl, h.el⟩
theorem Ents.get {w : World} {ao : Option Addr} {n c : Nat} {E : List En} (h : Ents w (.slice ao n c) E) {k : Nat} {e : En} (hk : E[k]? = some e) : ∃ b off, ao = some ⟨b, off, none⟩ ∧ w.cell? ⟨b, off + k * 3, none⟩ = some (.int .u64 (e.t : Int)) ∧ w.cell? ⟨b, off + k * 3 + 1, none⟩ = some (.int .u64 (e.i : Int)) ∧ w.cell? ⟨b, off + k * 3 + 2, none⟩ = some (.slice e.r.a e.r.b.length e.r.c) ∧ Rd w (.slice e.r.a e.r.b.length e.r.c) e.r.b := by
  obtain ⟨b, off, e1, hc⟩ := h.1.get (by decide) (k := k) (r := rowE e) (by rw [List.getElem?_map, hk]; rfl)
  have h0 := hc 0 _ rfl
  have h1 := hc 1 _ rfl
  have h2 := hc 2 _ rfl
  rw [Nat.add_zero] at h0
  exact ⟨b, off, e1, h0, h1, h2, (h.2 e (List.mem_of_getElem? hk)).1⟩

def cntN (n : Nat) : Nat := (n + 39) / 40 + 2
theorem count_any (n : Nat) (hn : n ≤ 140737488355328) (w : World) : Calls Tryz.prog 53 #[.int .i64 (n : Int)] w (fun e w' => e = .returned (.int .i64 (cntN n : Int)) ∧ w' = w) := by
  have h1 : IntKind.i64.wrap ((n : Int) + 39) = (n : Int) + 39 := by rw [IntKind.wrap_i64]; omega
  have h2 : ((n : Int) + 39).tdiv 40 = (((n + 39) / 40 : Nat) : Int) := rfl
  have h3 : IntKind.i64.wrap (((n + 39) / 40 : Nat) : Int) = (((n + 39) / 40 : Nat) : Int) := by rw [IntKind.wrap_i64]; omega
  have h4 : IntKind.i64.wrap ((((n + 39) / 40 : Nat) : Int) + 2) = (cntN n : Int) := by rw [IntKind.wrap_i64]; unfold cntN; omega
  go_enter Tryz.func53, Tryz.ntmps53
  go_wp2_with fail
  go_ret
  exact ⟨rfl, rfl⟩
def cntsN (n : Nat) : Nat := n / 32752 * cntN 32768 + cntN (16 + n % 32752)
theorem counts_any (n : Nat) (hn : n ≤ 140737488355328) (w : World) : Calls Tryz.prog 65 #[.int .i64 (n : Int)] w (fun e w' => e = .returned (.int .i64 (cntsN n : Int)) ∧ w' = w) := by
  have C1 := hid (count_any 32768 (by omega) w)
  have C2 := hid (count_any (16 + n % 32752) (by omega) w)
  have h1 : (n : Int).tdiv 32752 = ((n / 32752 : Nat) : Int) := rfl
  have h2 : (n : Int).tmod 32752 = ((n % 32752 : Nat) : Int) := rfl
  have h3 : IntKind.i64.wrap ((n / 32752 : Nat) : Int) = ((n / 32752 : Nat) : Int) := by rw [IntKind.wrap_i64]; omega
  have h4 : IntKind.i64.wrap ((n % 32752 : Nat) : Int) = ((n % 32752 : Nat) : Int) := by rw [IntKind.wrap_i64]; omega
  have h5 : IntKind.i64.wrap (16 + ((n % 32752 : Nat) : Int)) = ((16 + n % 32752 : Nat) : Int) := by rw [IntKind.wrap_i64]; omega
  have c0 : cntN 32768 = 822 := by decide
  have c1 : cntN (16 + n % 32752) ≤ 822 := by unfold cntN; omega
  have h6 : IntKind.i64.wrap (((n / 32752 : Nat) : Int) * (cntN 32768 : Int)) = ((n / 32752 * cntN 32768 : Nat) : Int) := by rw [c0, IntKind.wrap_i64]; omega
  have h7 : IntKind.i64.wrap (((n / 32752 * cntN 32768 : Nat) : Int) + (cntN (16 + n % 32752) : Int)) = (cntsN n : Int) := by unfold cntsN; rw [c0, IntKind.wrap_i64]; omega
  obtain ⟨q, hq⟩ : ∃ q, q = n / 32752 := ⟨_, rfl⟩
  obtain ⟨r, hr⟩ : ∃ r, r = n % 32752 := ⟨_, rfl⟩
  obtain ⟨d, hd⟩ : ∃ d, d = 16 + r := ⟨_, rfl⟩
  obtain ⟨u, hu⟩ : ∃ u, u = cntN 32768 := ⟨_, rfl⟩
  obtain ⟨v, hv⟩ : ∃ v, v = cntN d := ⟨_, rfl⟩
  obtain ⟨p, hp⟩ : ∃ p, p = q * u := ⟨_, rfl⟩
  rw [← hq] at h1 h3
  rw [← hr] at h2 h4
  rw [← hr, ← hd] at h5
  rw [← hr, ← hd, ← hv] at C2
  rw [← hu] at C1
  rw [← hq, ← hu, ← hp] at h6
  rw [← hq, ← hu, ← hp, ← hr, ← hd, ← hv] at h7
  have e16 : (16 : Int) + (r : Int) = (d : Int) := by omega
  have C2' : Hid (Calls Tryz.prog 53 #[.int .i64 (16 + (r : Int))] w (fun e w' => e = .returned (.int .i64 (v : Int)) ∧ w' = w)) := by rw [e16]; exact C2
  have h8 : wrap64 ((q : Int) * (u : Int) + (v : Int)) = (cntsN n : Int) := by
    have e1 : (q : Int) * (u : Int) = (p : Int) := by rw [hp]; simp
    rw [e1]
    simpa [IntKind.wrap_i64, wrap64] using h7
  have H8 := hid h8
  have hrb : r < 32752 := by omega
  have hrb2 : (r : Int) < 32752 := by omega
  clear hq hr hu hv hp c0 c1 e16 C2 h5 hd
  go_enter Tryz.func65, Tryz.ntmps65
  go_wp2_with (first
    | (go_at_call_of 53 r; refine C2'.out.mono ?_; rintro e w2 ⟨rfl, rfl⟩)
    | (go_at_call 53; refine C1.out.mono ?_; rintro e w2 ⟨rfl, rfl⟩))
  go_ret
  exact ⟨by first | rfl | exact congrArg (fun z => Ending.returned (Value.int .i64 z)) H8.out, rfl⟩
theorem third_any (n : Nat) (h0 : 16 ≤ n) (hn : n ≤ 65536) (w : World) : Calls Tryz.prog 35 #[.int .i64 (n : Int)] w (fun e w' => e = .returned (.int .i64 (((n / 2 - 8) / 3 : Nat) : Int)) ∧ w' = w) := by
  have h1 : (n : Int).tdiv 2 = ((n / 2 : Nat) : Int) := rfl
  have h2 : IntKind.i64.wrap ((n / 2 : Nat) : Int) = ((n / 2 : Nat) : Int) := by rw [IntKind.wrap_i64]; omega
  have h3 : IntKind.i64.wrap (((n / 2 : Nat) : Int) - 8) = ((n / 2 - 8 : Nat) : Int) := by rw [IntKind.wrap_i64]; omega
  have h4 : ((n / 2 - 8 : Nat) : Int).tdiv 3 = (((n / 2 - 8) / 3 : Nat) : Int) := rfl
  have h5 : IntKind.i64.wrap (((n / 2 - 8) / 3 : Nat) : Int) = (((n / 2 - 8) / 3 : Nat) : Int) := by rw [IntKind.wrap_i64]; omega
  go_enter Tryz.func35, Tryz.ntmps35
  go_wp2_with fail
  go_ret
  exact ⟨congrArg (fun z => Ending.returned (Value.int .i64 z)) (by omega), rfl⟩

theorem three_cells {w : World} {b : Nat} {x y z : Value} {t : TypeId} (h : w.heap[b]? = some (.cells #[x, y, z] t (0, 0))) : w.cell? ⟨b, 0, none⟩ = some x ∧ w.cell? ⟨b, 1, none⟩ = some y ∧ w.cell? ⟨b, 2, none⟩ = some z := by simp [World.cell?, h]
theorem six_cells {w : World} {b : Nat} {x y z u p q : Value} {t : TypeId} (h : w.heap[b]? = some (.cells #[x, y, z, u, p, q] t (0, 0))) : w.cell? ⟨b, 0, none⟩ = some x ∧ w.cell? ⟨b, 1, none⟩ = some y ∧ w.cell? ⟨b, 2, none⟩ = some z ∧ w.cell? ⟨b, 3, none⟩ = some u ∧ w.cell? ⟨b, 4, none⟩ = some p ∧ w.cell? ⟨b, 5, none⟩ = some q := by simp [World.cell?, h]

section
variable {w : World} {l m : Lo}
theorem rightS_any (l : Lo) (hl : l.sd.b.length ≤ 140737488355328) (w : World) : Calls Tryz.prog 27 #[l.v] w (fun e w' => e = .returned (.bool (rightS l.pl)) ∧ Below w.heap.size w w') := by
  obtain ⟨ht, hv, si, st, ⟨a, c, b⟩, eo, ec, es⟩ := l
  have hlen := fun W => run_len_slice (P := Tryz.prog) W 25 3 a b.length c Tryz.underlying25
  simp only [Lo.v]
  simp only at hl
  have hb : Below w.heap.size w ((w.alloc (.cells #[.int .u64 (ht : Int), .int .i64 hv, .int .u64 (si : Int), .int .u64 (st : Int), .slice a b.length c, .slice eo es.length ec] 30)).alloc (.cells #[.int .u64 (si : Int), .int .u64 (st : Int), .slice a b.length c] 27)) := ((Below.refl _ _).alloc (Nat.le_refl _) _).alloc (by simp) _
  have hR : rightS (Lo.pl ⟨ht, hv, si, st, ⟨a, c, b⟩, eo, ec, es⟩) = decide (si ≤ 4611686018427387904 ∧ st ≤ ht ∧ (si = 0 ↔ st = 0) ∧ b.length ≤ 32668) := rfl
  rw [hR]
  clear hR
  go_enter Tryz.func27, Tryz.ntmps27
  go_upto_region 2 with fail
  have h0 := (Below.heap_alloc (w.alloc (.cells #[.int .u64 (ht : Int), .int .i64 hv, .int .u64 (si : Int), .int .u64 (st : Int), .slice a b.length c, .slice eo es.length ec] 30)) (.cells #[.int .u64 (si : Int), .int .u64 (st : Int), .slice a b.length c] 27) w.heap.size (by simp)).trans (heap_alloc_new w (.cells #[.int .u64 (ht : Int), .int .i64 hv, .int .u64 (si : Int), .int .u64 (st : Int), .slice a b.length c, .slice eo es.length ec] 30))
  have h1 := heap_alloc2_new w (.cells #[.int .u64 (ht : Int), .int .i64 hv, .int .u64 (si : Int), .int .u64 (st : Int), .slice a b.length c, .slice eo es.length ec] 30) (.cells #[.int .u64 (si : Int), .int .u64 (st : Int), .slice a b.length c] 27)
  generalize (w.alloc (.cells #[.int .u64 (ht : Int), .int .i64 hv, .int .u64 (si : Int), .int .u64 (st : Int), .slice a b.length c, .slice eo es.length ec] 30)).alloc (.cells #[.int .u64 (si : Int), .int .u64 (st : Int), .slice a b.length c] 27) = w1 at *
  obtain ⟨a0, a1, a2, a3, a4, a5⟩ := six_cells h0
  obtain ⟨b0, b1, b2⟩ := three_cells h1
  have HB := hid hb
  clear hb h0 h1
  by_cases g1 : (si : Int) ≤ 4611686018427387904
  · by_cases g2 : (st : Int) ≤ (ht : Int)
    · by_cases g3 : si = 0 <;> by_cases g4 : st = 0 <;> by_cases g5 : (b.length : Int) ≤ 32668
      all_goals
        first | subst g3 | have g3b : ((si : Int) == 0) = false := (by simp; omega)
        first | subst g4 | have g4b : ((st : Int) == 0) = false := (by simp; omega)
        go_wp2_with fail
        go_ret
        refine ⟨congrArg (fun q => Ending.returned (Value.bool q)) ?_, HB.out⟩
        first | (simp; done) | (simp; omega)
    · go_wp2_with fail
      go_ret
      refine ⟨congrArg (fun q => Ending.returned (Value.bool q)) ?_, HB.out⟩
      first | (simp; done) | (simp; omega)
  · go_wp2_with fail
    go_ret
    refine ⟨congrArg (fun q => Ending.returned (Value.bool q)) ?_, HB.out⟩
    first | (simp; done) | (simp; omega)
end
end Go.Proofs.YtddnleofflobhaaGreatDoor

set_option linter.unusedVariables false
set_option linter.unusedSimpArgs false
set_option maxRecDepth 100000
namespace Go.Proofs.YtddnleofflobhaaGreatDoor
open Go.RowKit

theorem cell_alloc {w : World} {a : Addr} {v : Value} (h : w.cell? a = some v) (o : Obj) : (w.alloc o).cell? a = some v :=
  (World.cell?_of_block (w := w) (a := a) ((((Below.refl w.heap.size w).alloc (Nat.le_refl _) o)).block _ (World.block_lt_of_cell? w _ h))).trans h
theorem below_drawn (w : World) (n : Nat) : Below w.heap.size w (w.drewN n) := ⟨rfl, rfl, rfl, Nat.le_refl _, fun _ _ => rfl⟩

theorem bytesEq_any (x y : Value) (l m : List UInt8) (w : World) (hx : Rd w x l) (hy : Rd w y m) :
    Calls Tryz.prog 100 #[x, y] w fun e w' => e = .returned (.bool (l == m)) ∧ w' = w := by
  have h1 := fun W (h : Rd W x l) => h.conv (P := Tryz.prog) 25 9 5 Tryz.underlying25 Tryz.underlying5 Tryz.underlying9
  have h2 := fun W (h : Rd W y m) => h.conv (P := Tryz.prog) 25 9 5 Tryz.underlying25 Tryz.underlying5 Tryz.underlying9
  have c1 := h1 w hx
  have c2 := h2 w hy
  clear h1 h2 hx hy
  go_enter Tryz.func100, Tryz.ntmps100
  go_wp2_with fail
  go_ret
  exact ⟨rfl, rfl⟩

/-- An entry as a value. -/
def En.v (e : En) : Value := .agg #[.int .u64 (e.t : Int), .int .u64 (e.i : Int), .slice e.r.a e.r.b.length e.r.c]
theorem En.same (e f : En) : e.pe = f.pe ↔ e.t = f.t ∧ e.i = f.i ∧ e.r.b = f.r.b := by
  unfold En.pe
  simp only [Pe.mk.injEq]

theorem sameEntry_any (e f : En) (w : World) (he : Rd w (.slice e.r.a e.r.b.length e.r.c) e.r.b) (hf : Rd w (.slice f.r.a f.r.b.length f.r.c) f.r.b) : Calls Tryz.prog 93 #[e.v, f.v] w (fun en w' => en = .returned (.bool (decide (e.pe = f.pe))) ∧ Below w.heap.size w w') := by
  have hS := En.same e f
  have hd : decide (e.pe = f.pe) = decide (e.t = f.t ∧ e.i = f.i ∧ e.r.b = f.r.b) := by simp only [hS]
  rw [hd]
  clear hS hd
  obtain ⟨et, ei, ⟨ea, ec, eb⟩⟩ := e
  obtain ⟨ft, fi, ⟨fa, fc, fb⟩⟩ := f
  simp only [En.v] at he hf ⊢
  have hb : Below w.heap.size w ((w.alloc (.cells #[.int .u64 (et : Int), .int .u64 (ei : Int), .slice ea eb.length ec] 63)).alloc (.cells #[.int .u64 (ft : Int), .int .u64 (fi : Int), .slice fa fb.length fc] 63)) := ((Below.refl _ _).alloc (Nat.le_refl _) _).alloc (by simp) _
  have h0 := (Below.heap_alloc (w.alloc (.cells #[.int .u64 (et : Int), .int .u64 (ei : Int), .slice ea eb.length ec] 63)) (.cells #[.int .u64 (ft : Int), .int .u64 (fi : Int), .slice fa fb.length fc] 63) w.heap.size (by simp)).trans (heap_alloc_new w (.cells #[.int .u64 (et : Int), .int .u64 (ei : Int), .slice ea eb.length ec] 63))
  have h1 := heap_alloc2_new w (.cells #[.int .u64 (et : Int), .int .u64 (ei : Int), .slice ea eb.length ec] 63) (.cells #[.int .u64 (ft : Int), .int .u64 (fi : Int), .slice fa fb.length fc] 63)
  go_enter Tryz.func93, Tryz.ntmps93
  go_upto_region 1 with fail
  generalize (w.alloc (.cells #[.int .u64 (et : Int), .int .u64 (ei : Int), .slice ea eb.length ec] 63)).alloc (.cells #[.int .u64 (ft : Int), .int .u64 (fi : Int), .slice fa fb.length fc] 63) = w1 at *
  obtain ⟨a0, a1, a2⟩ := three_cells h0
  obtain ⟨b0, b1, b2⟩ := three_cells h1
  have CE := hid (bytesEq_any _ _ eb fb w1 (he.old hb) (hf.old hb))
  have HB := hid hb
  clear hb h0 h1 he hf
  by_cases g1 : ei = fi
  · by_cases g2 : et = ft
    · subst g1 g2
      go_wp2_with (first | (go_at_call 100; refine CE.out.mono ?_; rintro e w2 ⟨rfl, rfl⟩))
      go_ret
      refine ⟨congrArg (fun q => Ending.returned (Value.bool q)) ?_, HB.out⟩
      rw [Bool.eq_iff_iff]
      simp
    · have g2' : ¬ ((et : Int) = (ft : Int)) := by omega
      have g2b : ((et : Int) == (ft : Int)) = false := by simp; omega
      subst g1
      go_wp2_with fail
      go_ret
      refine ⟨congrArg (fun q => Ending.returned (Value.bool q)) ?_, HB.out⟩
      simp [g2]
  · have g1' : ¬ ((ei : Int) = (fi : Int)) := by omega
    have g1b : ((ei : Int) == (fi : Int)) = false := by simp; omega
    go_wp2_with fail
    go_ret
    refine ⟨congrArg (fun q => Ending.returned (Value.bool q)) ?_, HB.out⟩
    simp [g1]
theorem sameSnap_any (ei et : Nat) (er : Rc) (fi ft : Nat) (fr : Rc) (w : World) (he : Rd w (.slice er.a er.b.length er.c) er.b) (hf : Rd w (.slice fr.a fr.b.length fr.c) fr.b) : Calls Tryz.prog 91 #[.agg #[.int .u64 (ei : Int), .int .u64 (et : Int), .slice er.a er.b.length er.c], .agg #[.int .u64 (fi : Int), .int .u64 (ft : Int), .slice fr.a fr.b.length fr.c]] w (fun en w' => en = .returned (.bool (decide (ei = fi ∧ et = ft ∧ er.b = fr.b))) ∧ Below w.heap.size w w') := by
  obtain ⟨ea, ec, eb⟩ := er
  obtain ⟨fa, fc, fb⟩ := fr
  simp only at he hf ⊢
  have hb : Below w.heap.size w ((w.alloc (.cells #[.int .u64 (ei : Int), .int .u64 (et : Int), .slice ea eb.length ec] 27)).alloc (.cells #[.int .u64 (fi : Int), .int .u64 (ft : Int), .slice fa fb.length fc] 27)) := ((Below.refl _ _).alloc (Nat.le_refl _) _).alloc (by simp) _
  have h0 := (Below.heap_alloc (w.alloc (.cells #[.int .u64 (ei : Int), .int .u64 (et : Int), .slice ea eb.length ec] 27)) (.cells #[.int .u64 (fi : Int), .int .u64 (ft : Int), .slice fa fb.length fc] 27) w.heap.size (by simp)).trans (heap_alloc_new w (.cells #[.int .u64 (ei : Int), .int .u64 (et : Int), .slice ea eb.length ec] 27))
  have h1 := heap_alloc2_new w (.cells #[.int .u64 (ei : Int), .int .u64 (et : Int), .slice ea eb.length ec] 27) (.cells #[.int .u64 (fi : Int), .int .u64 (ft : Int), .slice fa fb.length fc] 27)
  go_enter Tryz.func91, Tryz.ntmps91
  go_upto_region 1 with fail
  generalize (w.alloc (.cells #[.int .u64 (ei : Int), .int .u64 (et : Int), .slice ea eb.length ec] 27)).alloc (.cells #[.int .u64 (fi : Int), .int .u64 (ft : Int), .slice fa fb.length fc] 27) = w1 at *
  obtain ⟨a0, a1, a2⟩ := three_cells h0
  obtain ⟨b0, b1, b2⟩ := three_cells h1
  have CE := hid (bytesEq_any _ _ eb fb w1 (he.old hb) (hf.old hb))
  have HB := hid hb
  clear hb h0 h1 he hf
  by_cases g1 : ei = fi
  · by_cases g2 : et = ft
    · subst g1 g2
      go_wp2_with (first | (go_at_call 100; refine CE.out.mono ?_; rintro e w2 ⟨rfl, rfl⟩))
      go_ret
      refine ⟨congrArg (fun q => Ending.returned (Value.bool q)) ?_, HB.out⟩
      rw [Bool.eq_iff_iff]
      simp
    · have g2' : ¬ ((et : Int) = (ft : Int)) := by omega
      have g2b : ((et : Int) == (ft : Int)) = false := by simp; omega
      subst g1
      go_wp2_with fail
      go_ret
      refine ⟨congrArg (fun q => Ending.returned (Value.bool q)) ?_, HB.out⟩
      simp [g2]
  · have g1' : ¬ ((ei : Int) = (fi : Int)) := by omega
    have g1b : ((ei : Int) == (fi : Int)) = false := by simp; omega
    go_wp2_with fail
    go_ret
    refine ⟨congrArg (fun q => Ending.returned (Value.bool q)) ?_, HB.out⟩
    simp [g1]

set_option maxHeartbeats 4000000 in
theorem equalE_any (A B : List En) (x y : Value) (w : World) (hA : Ents w x A) (hB : Ents w y B) (hl : A.length ≤ 140737488355328) (hl2 : B.length ≤ 140737488355328) :
    Calls Tryz.prog 92 #[x, y, .func (.func 93) #[] #[]] w (fun en w' => en = .returned (.bool (decide (A.map En.pe = B.map En.pe))) ∧ Below w.heap.size w w') := by
  obtain ⟨ao, ac, e1, q1, q2⟩ := hA.1.form
  obtain ⟨bo, bc, e2, q3, q4⟩ := hB.1.form
  rw [List.length_map] at e1 q1 e2 q3
  subst e1 e2
  have hla := fun W => run_len_slice (P := Tryz.prog) W 28 3 ao A.length ac Tryz.underlying28
  have hlb := fun W => run_len_slice (P := Tryz.prog) W 28 3 bo B.length bc Tryz.underlying28
  by_cases hne : A.length = B.length
  · obtain ⟨n, hn⟩ : ∃ n, n = A.length := ⟨_, rfl⟩
    have HA := hid hA
    have HB := hid hB
    have HN := hid (And.intro hn (hn.trans hne))
    rw [← hne, ← hn] at hlb HB
    rw [← hn] at hla HA
    rw [← hne, ← hn]
    rw [← hn] at hl q1
    have hq3 : n ≤ bc := by omega
    clear hA hB hn hne q2 q4 q3 hl2
    go_enter Tryz.func92, Tryz.ntmps92
    go_wp2_with fail
    go_loopw [17] (fun i wr => ∃ k : Nat, k ≤ n ∧ i = .int .i64 (k : Int) ∧ Hid ((A.map En.pe).take k = (B.map En.pe).take k) ∧ Hid (Below w.heap.size w wr)) (fun i _ => n - (intOf i).toNat)
    case atStart => exact ⟨0, by omega, rfl, by rw [List.take_zero, List.take_zero]; exact rfl, Below.refl _ _⟩
    case round =>
      obtain ⟨k, hk, rfl, HT, HBw⟩ := hrel
      by_cases hlt : k < n
      · have hA9 := List.getElem?_eq_getElem (l := A) (i := k) (by have := HN.out; omega)
        have hB9 := List.getElem?_eq_getElem (l := B) (i := k) (by have := HN.out; omega)
        generalize A[k]'_ = e at hA9
        generalize B[k]'_ = f at hB9
        obtain ⟨b1, o1, ea1, c10, c11, c12, r1⟩ := (HA.out.old HBw.out).get hA9
        obtain ⟨b2, o2, eb2, c20, c21, c22, r2⟩ := (HB.out.old HBw.out).get hB9
        subst ea1 eb2
        have hki : (k : Int) < (n : Int) := by omega
        have CE : Hid (∀ W, Below wr.heap.size wr W → Calls Tryz.prog 93 #[.agg #[.int .u64 (e.t : Int), .int .u64 (e.i : Int), .slice e.r.a e.r.b.length e.r.c], .agg #[.int .u64 (f.t : Int), .int .u64 (f.i : Int), .slice f.r.a f.r.b.length f.r.c]] W (fun en w' => en = .returned (.bool (decide (e.pe = f.pe))) ∧ Hid (Below wr.heap.size wr w'))) := hid fun W hW => (sameEntry_any e f W (r1.old hW) (r2.old hW)).mono fun en w' h => ⟨h.1, hid (hW.trans (h.2.mono hW.size))⟩
        have HBr := hid (And.intro hA9 hB9)
        have d20 := fun o => cell_alloc c20 o
        have d21 := fun o => cell_alloc c21 o
        have d22 := fun o => cell_alloc c22 o
        clear r1 r2 hA9 hB9
        have HW : Hid (∀ o o2, Below wr.heap.size wr ((wr.alloc o).alloc o2)) := hid fun o o2 => ((Below.refl _ _).alloc (Nat.le_refl _) _).alloc (by simp) _
        have hz : IntKind.i64.wrap ((k : Int) + 1) = (k : Int) + 1 := by rw [IntKind.wrap_i64]; omega
        by_cases hef : e.pe = f.pe
        · have hdt : decide (e.pe = f.pe) = true := by simp [hef]
          rw [hdt] at CE
          have HEF := hid hef
          clear hdt hef
          go_wp2_with (first | (go_at_call 93; refine (CE.out _ (HW.out _ _)).mono ?_; rintro en w3 ⟨rfl, hb3⟩))
          go_roundw
          case rel => exact ⟨k + 1, by omega, by go_num, hid (by
            rw [List.take_add_one, List.take_add_one, HT.out, List.getElem?_map, List.getElem?_map, HBr.out.1, HBr.out.2]
            simp [HEF.out]), HBw.out.trans (hb3.out.mono HBw.out.size)⟩
          case measure => first | (simp [intOf]; done) | (simp [intOf]; omega)
        · have hdt : decide (e.pe = f.pe) = false := by simp [hef]
          rw [hdt] at CE
          have HEF := hid hef
          clear hdt hef
          go_wp2_with (first | (go_at_call 93; refine (CE.out _ (HW.out _ _)).mono ?_; rintro en w3 ⟨rfl, hb3⟩))
          go_ret
          refine ⟨congrArg (fun q => Ending.returned (Value.bool q)) ?_, HBw.out.trans (hb3.out.mono HBw.out.size)⟩
          symm
          rw [decide_eq_false_iff_not]
          intro e9
          have e8 := congrArg (fun l : List Pe => l[k]?) e9
          simp only [List.getElem?_map, HBr.out.1, HBr.out.2, Option.map_some, Option.some.injEq] at e8
          exact HEF.out e8
      · obtain rfl : k = n := by omega
        have hki : ¬ ((k : Int) < (k : Int)) := by omega
        go_wp2_with fail
        go_ret
        refine ⟨congrArg (fun q => Ending.returned (Value.bool q)) ?_, HBw.out⟩
        have h9 := HT.out
        have hn := HN.out
        rw [List.take_of_length_le (by rw [List.length_map]; omega), List.take_of_length_le (by rw [List.length_map]; omega)] at h9
        simp [h9]
  · have hI : ¬ ((A.length : Int) = (B.length : Int)) := by omega
    have hIb : ((A.length : Int) == (B.length : Int)) = false := by simp; omega
    have HD : Hid (decide (A.map En.pe = B.map En.pe) = false) := by
      show _ = _
      rw [decide_eq_false_iff_not]
      intro e
      have := congrArg List.length e
      simp at this
      exact hne this
    clear hA hB
    go_enter Tryz.func92, Tryz.ntmps92
    go_wp2_with fail
    go_ret
    exact ⟨by rw [HD.out]; rfl, Below.refl _ _⟩
end Go.Proofs.YtddnleofflobhaaGreatDoor

