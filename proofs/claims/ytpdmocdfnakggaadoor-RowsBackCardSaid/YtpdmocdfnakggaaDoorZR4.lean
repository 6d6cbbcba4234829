import Derived.Test.YtpdmocdfnakggaaDoorRows
import Derived.WalkKit
import Derived.WalkSpells
import Derived.WalkLawsBesides
import Derived.Laws.AppendOwnNone
import Derived.Deep.Slices
import Derived.Deep.AppendLies
import Derived.BigQuiet
import Derived.Deep.QuietTactic
import Derived.Deep.CutRange
import Derived.Deep.RegionWith
import Derived.Deep.RegionHeld3
import Derived.Test.YtpdmocdfnakggaaDoorProg
import Derived.LaidEql
import Derived.Stop.Asserts
import Derived.RowKitTokens
import GoSem.Op.String
import Derived.Lib.Bytealg
import Derived.Lib.Bytes
import Derived.Deep.OwnRows
import Derived.OwnWalk
import Derived.ProofKit
import Derived.Lib.AppendZeros
import Derived.Test.YtpdmocdfnakggaaDoorZR1
import Derived.Test.YtpdmocdfnakggaaDoorZR2
import Derived.Test.YtpdmocdfnakggaaDoorZR3
set_option linter.unusedVariables false
set_option linter.unusedSimpArgs false
set_option linter.unusedVariables false
set_option linter.unusedSimpArgs false
set_option maxRecDepth 100000
namespace Go.Proofs.YtpdmocdfnakggaaDoor
open Go.RowKit Go.Deep

theorem results_cell2 {P : Program} {fn : Func} {p u : Tmp} {ty : TypeId} (h : fn.results = #[.cell p ty, .tmp u]) (tmps : Array Value) (w : World) (g : Nat) (t : TypeId) (cs : Array Value) (fr : Nat × Nat) (d : TypeDesc)
    (hp : tmps.getD p undef = .pointer (some ⟨g, 0, none⟩)) (hg : w.heap[g]? = some (.cells cs t fr))
    (hu : P.underlying ty = some d) (hd : (match d with | .struct _ | .array _ _ => true | _ => false) = true) (hi : (P.info? ty).map (·.size) = some cs.size) :
    (results fn tmps).run P w = .ok (.tuple #[.agg cs, tmps.getD u undef]) w := by
  have hp' : tmps[p]?.getD undef = .pointer (some ⟨g, 0, none⟩) := by simpa using hp
  simp [results, h, hp', asAddr, run_loadVar_row w g t ty cs fr d hg hu hd hi]
theorem put_in {w : World} {b : Nat} {cs : List Value} {t : TypeId} (h : w.heap[b]? = some (.cells cs.toArray t (0, 0))) (i : Nat) (v : Value) : (w.setCell ⟨b, i, none⟩ v).heap[b]? = some (.cells (cs.set i v).toArray t (0, 0)) := by
  have hlt := lt_of_block h
  have h' : w.heap[b] = .cells cs.toArray t (0, 0) := by simpa [Array.getElem?_eq_getElem hlt] using h
  show (w.heap.modify b _)[b]? = _
  rw [Array.getElem?_eq_getElem (by simpa using hlt), Array.getElem_modify_self, h']
  simp
theorem free_in {w : World} {b : Nat} {cs : Array Value} {t : TypeId} (h : w.heap[b]? = some (.cells cs t (0, 0))) (i : Nat) : w.frozen? ⟨b, i, none⟩ = false := by
  simp [World.frozen?, h]

def tab0 : Tab := ⟨0, [], [], []⟩
def idx0 : Idx := ⟨0, 0, [], [], false, 0, false⟩
theorem ZsN.nil (N : Nat → Prop) (w : World) : ZsN N w (.slice none 0 0) [] := ⟨Rws.nil 1 w, fun h => absurd rfl h⟩
theorem ClsN.nil (N : Nat → Prop) (w : World) : ClsN N w (.slice none 0 0) [] := ⟨Rws.nil 3 w, fun h => absurd rfl h⟩
theorem TabN.zero (N : Nat → Prop) (w : World) : TabN N w [.int .i64 0, .string ⟨#[]⟩, .slice none 0 0, .slice none 0 0] tab0 := ⟨_, _, rfl, ClsN.nil N w, ZsN.nil N w, rfl, rfl⟩
theorem IdxN.zero (N : Nat → Prop) (w : World) : IdxN N w [.int .i64 0, .int .i64 0, .string ⟨#[]⟩, .slice none 0 0, .bool false, .int .i64 0, .bool false] idx0 := ⟨_, rfl, ZsN.nil N w, rfl⟩

theorem tb_cells {N : Nat → Prop} {w : World} {x : Value} {l : List Tab} (h : LstN (TabN N) 4 N w x l) : ∃ ao c, x = .slice ao l.length c ∧ l.length ≤ c ∧ c ≤ maxLen ∧ ∀ (k : Nat) t, l[k]? = some t → ∃ b off a1 c1 a2 c2, ao = some ⟨b, off, none⟩ ∧
    TabN N w [.int .i64 t.id, .string ⟨t.name.toArray⟩, .slice a1 t.cols.length c1, .slice a2 t.key.length c2] t ∧ w.cell? ⟨b, off + k * 4, none⟩ = some (.int .i64 t.id) ∧ w.cell? ⟨b, off + k * 4 + 1, none⟩ = some (.string ⟨t.name.toArray⟩) ∧
    w.cell? ⟨b, off + k * 4 + 2, none⟩ = some (.slice a1 t.cols.length c1) ∧ w.cell? ⟨b, off + k * 4 + 3, none⟩ = some (.slice a2 t.key.length c2) := by
  obtain ⟨M, hl, hr, hall, -⟩ := h
  obtain ⟨ao, c, rfl, h1, h2⟩ := hr.form
  rw [hl] at hr h1
  refine ⟨ao, c, by rw [hl], h1, h2, fun k t hk => ?_⟩
  obtain ⟨r, hM⟩ : ∃ r, M[k]? = some r := ⟨_, List.getElem?_eq_getElem (by have := (List.getElem?_eq_some_iff.1 hk).1; omega)⟩
  have ht := hall k r t hM hk
  obtain ⟨x', y', rfl, q1, q2, o1, o2⟩ := ht
  obtain ⟨a1, c1, rfl, -⟩ := q1.1.form
  obtain ⟨a2, c2, rfl, -⟩ := q2.1.form
  obtain ⟨b, off, rfl, h3⟩ := hr.get (by decide) hM
  rw [List.length_map] at *
  rw [List.length_map] at *
  exact ⟨b, off, a1, c1, a2, c2, rfl, ⟨_, _, rfl, q1, q2, rfl, rfl⟩, h3 0 _ rfl, h3 1 _ rfl, h3 2 _ rfl, h3 3 _ rfl⟩
theorem ix_cells {N : Nat → Prop} {w : World} {x : Value} {l : List Idx} (h : LstN (IdxN N) 7 N w x l) : ∃ ao c, x = .slice ao l.length c ∧ l.length ≤ c ∧ c ≤ maxLen ∧ ∀ (k : Nat) t, l[k]? = some t → ∃ b off a1 c1, ao = some ⟨b, off, none⟩ ∧
    IdxN N w [.int .i64 t.id, .int .i64 t.table, .string ⟨t.name.toArray⟩, .slice a1 t.cols.length c1, .bool t.uniq, .int .i64 t.state, .bool t.bad] t ∧ w.cell? ⟨b, off + k * 7, none⟩ = some (.int .i64 t.id) ∧ w.cell? ⟨b, off + k * 7 + 1, none⟩ = some (.int .i64 t.table) ∧ w.cell? ⟨b, off + k * 7 + 2, none⟩ = some (.string ⟨t.name.toArray⟩) ∧
    w.cell? ⟨b, off + k * 7 + 3, none⟩ = some (.slice a1 t.cols.length c1) ∧ w.cell? ⟨b, off + k * 7 + 4, none⟩ = some (.bool t.uniq) ∧ w.cell? ⟨b, off + k * 7 + 5, none⟩ = some (.int .i64 t.state) ∧ w.cell? ⟨b, off + k * 7 + 6, none⟩ = some (.bool t.bad) := by
  obtain ⟨M, hl, hr, hall, -⟩ := h
  obtain ⟨ao, c, rfl, h1, h2⟩ := hr.form
  rw [hl] at hr h1
  refine ⟨ao, c, by rw [hl], h1, h2, fun k t hk => ?_⟩
  obtain ⟨r, hM⟩ : ∃ r, M[k]? = some r := ⟨_, List.getElem?_eq_getElem (by have := (List.getElem?_eq_some_iff.1 hk).1; omega)⟩
  have ht := hall k r t hM hk
  obtain ⟨y', rfl, q1, o1⟩ := ht
  obtain ⟨a1, c1, rfl, -⟩ := q1.1.form
  obtain ⟨b, off, rfl, h3⟩ := hr.get (by decide) hM
  rw [List.length_map] at *
  exact ⟨b, off, a1, c1, rfl, ⟨_, rfl, q1, rfl⟩, h3 0 _ rfl, h3 1 _ rfl, h3 2 _ rfl, h3 3 _ rfl, h3 4 _ rfl, h3 5 _ rfl, h3 6 _ rfl⟩
theorem find_none {α : Type} {p : α → Bool} {l : List α} (h : l.any p = false) : l.find? p = none := by
  rw [List.find?_eq_none]; intro x hx hp
  have : l.any p = true := List.any_eq_true.2 ⟨x, hx, hp⟩
  rw [h] at this; cases this
theorem find_at {α : Type} {p : α → Bool} {l : List α} {k : Nat} {c : α} (h : l[k]? = some c) (ha : (l.take k).any p = false) (hp : p c = true) : l.find? p = some c := by
  have h1 : l = l.take k ++ c :: l.drop (k + 1) := by
    conv => lhs; rw [← List.take_append_drop k l]
    obtain ⟨hk, rfl⟩ := List.getElem?_eq_some_iff.1 h
    rw [List.drop_eq_getElem_cons hk]
  rw [h1, List.find?_append, find_none ha]
  simp [List.find?_cons, hp]
set_option maxHeartbeats 4000000 in
theorem rByID_any {N : Nat → Prop} {w : World} {cs : List Value} {C : Cat} (h : CatN N w cs C) (s : Int) : Calls Tryd.prog 41 #[.agg cs.toArray, .int .i64 s] w (fun e w' => ∃ vs : List Value, e = .returned (.tuple #[.agg vs.toArray, .bool (C.tabs.find? (fun t => decide (t.id = s))).isSome]) ∧ Below w.heap.size w w' ∧ TabN N w' vs ((C.tabs.find? (fun t => decide (t.id = s))).getD tab0)) := by
  obtain ⟨x, y, rfl, hx, hy, -, -⟩ := h
  obtain ⟨ao, c, rfl, h1, h2, hc⟩ := tb_cells hx
  obtain ⟨ko, d, rfl, g1, g2, gc⟩ := ix_cells hy
  have hlm : C.tabs.length ≤ 9223372036854775807 := by unfold maxLen at h2; omega
  have hkm : C.idxs.length ≤ 9223372036854775807 := by unfold maxLen at g2; omega
  have HC := hid hc
  clear hx hy hc gc
  go_enter Tryd.func41, Tryd.ntmps41
  go_upto_region 1 with fail
  have hb := (Below.refl w.heap.size w).alloc (Nat.le_refl _) (.cells #[.int .i64 C.ver, .int .i64 C.nxt, .slice ao C.tabs.length c, .slice ko C.idxs.length d] 63)
  have hz := heap_alloc_new w (.cells #[.int .i64 C.ver, .int .i64 C.nxt, .slice ao C.tabs.length c, .slice ko C.idxs.length d] 63)
  have hsz : (w.alloc (.cells #[.int .i64 C.ver, .int .i64 C.nxt, .slice ao C.tabs.length c, .slice ko C.idxs.length d] 63)).heap.size = w.heap.size + 1 := by simp
  generalize w.alloc (.cells #[.int .i64 C.ver, .int .i64 C.nxt, .slice ao C.tabs.length c, .slice ko C.idxs.length d] 63) = w1 at *
  have hz2 := heap_alloc_new w1 (.cells #[.int .i64 0, .string ⟨#[]⟩, .slice none 0 0, .slice none 0 0] 25)
  have HB := hid (hb.alloc hb.size (.cells #[.int .i64 0, .string ⟨#[]⟩, .slice none 0 0, .slice none 0 0] 25))
  have HZ := hid (((Below.refl _ w1).alloc (Nat.le_refl _) (.cells #[.int .i64 0, .string ⟨#[]⟩, .slice none 0 0, .slice none 0 0] 25)).block _ (lt_of_block hz) |>.trans hz)
  rw [hsz] at hz2
  generalize w1.alloc (.cells #[.int .i64 0, .string ⟨#[]⟩, .slice none 0 0, .slice none 0 0] 25) = w2 at *
  have HZ2 := hid hz2
  clear hz2
  clear hb hz hsz
  have z1 := cell_in HZ.out 2 _ rfl
  go_wp2_with fail
  go_loopw [6] (fun j wr => ∃ k : Nat, k ≤ C.tabs.length ∧ j = .int .i64 (k : Int) ∧ wr = w2 ∧ (C.tabs.take k).any (fun t => decide (t.id = s)) = false)
    (fun j _ => C.tabs.length - (intOf j).toNat)
  case atStart => exact ⟨0, by omega, rfl, rfl, by simp⟩
  case round =>
    obtain ⟨k, hk, rfl, rfl, ha⟩ := hrel
    have HA := hid ha
    clear ha
    by_cases hlt : k < C.tabs.length
    · obtain ⟨u, hu⟩ : ∃ u, C.tabs[k]? = some u := ⟨_, List.getElem?_eq_getElem hlt⟩
      obtain ⟨b, off, a1, e1, a2, e2, rfl, ht, c0, c1, c2, c3⟩ := HC.out k u hu
      have hki : (k : Int) < (C.tabs.length : Int) := by omega
      have k0 := (HB.out.cell (block_cell c0)).trans c0
      have k1 := (HB.out.cell (block_cell c1)).trans c1
      have k2 := (HB.out.cell (block_cell c2)).trans c2
      have k3 := (HB.out.cell (block_cell c3)).trans c3
      clear c0 c1 c2 c3
      have HT := hid ht
      clear ht
      have HU := hid (any_take (p := fun t => decide (t.id = s)) hu HA.out)
      have HF := hid (find_at (p := fun t => decide (t.id = s)) hu HA.out)
      have q0 := cell_in HZ2.out 0 _ rfl
      have f0 := free_in HZ2.out 0
      have q1 := cell_in HZ2.out 1 _ rfl
      have f1 := free_in HZ2.out 1
      have q2 := cell_in HZ2.out 2 _ rfl
      have f2 := free_in HZ2.out 2
      have q3 := cell_in HZ2.out 3 _ rfl
      have f3 := free_in HZ2.out 3
      cases hq : (u.id == s) with
      | true =>
        have HFF := hid (HF.out (by simpa using hq))
        clear HF HU
        go_wp2_with fail
        (try simp only [Exit.inBlock, Exit.then]); refine bodyPost_ret (results_cell2 rfl _ _ (w.heap.size + 1) 25 _ (0, 0) _ rfl (put_in (put_in (put_in (put_in HZ2.out 0 _) 1 _) 2 _) 3 _) Tryd.underlying25 rfl (by kernel_rfl)) rfl ?_
        rw [HFF.out]
        refine ⟨_, rfl, ((((HB.out.setCell (by simp) _).setCell (by simp) _).setCell (by simp) _).setCell (by simp) _), ?_⟩
        exact HT.out.old ((((HB.out.setCell (by simp) _).setCell (by simp) _).setCell (by simp) _).setCell (by simp) _)
      | false =>
        have HQ := hid hq
        go_wp2_with fail
        go_roundw
        case rel => exact ⟨k + 1, by omega, by go_num, trivial, by rw [HU.out]; simpa using HQ.out⟩
        case measure => simp [intOf]; omega
    · obtain rfl : k = C.tabs.length := by omega
      rw [List.take_length] at HA
      have HFF := hid (find_none HA.out)
      have q0 := cell_in HZ2.out 0 _ rfl
      have f0 := free_in HZ2.out 0
      have q1 := cell_in HZ2.out 1 _ rfl
      have f1 := free_in HZ2.out 1
      have q2 := cell_in HZ2.out 2 _ rfl
      have f2 := free_in HZ2.out 2
      have q3 := cell_in HZ2.out 3 _ rfl
      have f3 := free_in HZ2.out 3
      go_wp2_with fail
      (try simp only [Exit.inBlock, Exit.then]); refine bodyPost_ret (results_cell2 rfl _ _ (w.heap.size + 1) 25 _ (0, 0) _ rfl (put_in (put_in (put_in (put_in HZ2.out 0 _) 1 _) 2 _) 3 _) Tryd.underlying25 rfl (by kernel_rfl)) rfl ?_
      rw [HFF.out]
      exact ⟨_, rfl, ((((HB.out.setCell (by simp) _).setCell (by simp) _).setCell (by simp) _).setCell (by simp) _), TabN.zero _ _⟩

end Go.Proofs.YtpdmocdfnakggaaDoor

set_option linter.unusedVariables false
set_option linter.unusedSimpArgs false
set_option maxRecDepth 100000
namespace Go.Proofs.YtpdmocdfnakggaaDoor
open Go.RowKit Go.Deep

def nullIn (l : List Vl) : Bool := l.any (fun v => decide (v.k = 0))
theorem nullIn_take {l : List Vl} {k : Nat} {v : Vl} (h : l[k]? = some v) : nullIn (l.take (k + 1)) = (nullIn (l.take k) || decide (v.k = 0)) := by
  unfold nullIn
  rw [List.take_add_one, h, List.any_append]; simp
theorem nullIn_at {l : List Vl} {k : Nat} {v : Vl} (h : l[k]? = some v) (hv : v.k = 0) : nullIn l = true := by
  unfold nullIn
  rw [List.any_eq_true]; exact ⟨v, List.mem_of_getElem? h, by simpa using hv⟩
theorem okV_null {v : Vl} (h : okV v) (hv : v.k = 0) : v = ⟨0, 0, []⟩ := by
  obtain ⟨vk, vi, vs⟩ := v
  simp only at hv
  subst hv
  rcases h with ⟨-, h1, h2⟩ | ⟨h1, -⟩ | ⟨h1, -⟩
  · simp only at h1 h2; rw [h1, h2]
  · simp at h1
  · simp at h1

set_option maxHeartbeats 4000000 in
theorem zindex_any {w : World} {x : Value} {l : List Vl} (hx : Vs w x l) (hok : ∀ v ∈ l, okV v) :
    Calls Tryd.prog 60 #[x, .agg #[.int .i64 0, .int .i64 0, .string ⟨#[]⟩]] w (fun e w' => ∃ k : Int, e = .returned (.int .i64 k) ∧ decide (0 ≤ k) = nullIn l ∧ Below w.heap.size w w') := by
  obtain ⟨a1, e1, rfl, hm⟩ := hx.form
  unfold maxLen at hm
  have HX := hid hx
  have HOK := hid hok
  clear hx hok
  go_enter Tryd.func60, Tryd.ntmps60
  go_upto_region 1 with fail
  have hb := (Below.refl w.heap.size w).alloc (Nat.le_refl _) (.cells #[.int .i64 0, .int .i64 0, .string ⟨#[]⟩] 44)
  have hz := heap_alloc_new w (.cells #[.int .i64 0, .int .i64 0, .string ⟨#[]⟩] 44)
  generalize w.alloc (.cells #[.int .i64 0, .int .i64 0, .string ⟨#[]⟩] 44) = w1 at *
  have HB := hid hb
  have HZ := hid hz
  clear hb hz
  go_wp2_with fail
  go_loopw [8] (fun j wr => ∃ k : Nat, k ≤ l.length ∧ j = .int .i64 (k : Int) ∧ Hid (Below w1.heap.size w1 wr) ∧ Hid (nullIn (l.take k) = false))
    (fun j _ => l.length - (intOf j).toNat)
  case atStart => exact ⟨0, by omega, rfl, Below.refl _ _, rfl⟩
  case round =>
    obtain ⟨k, hk, rfl, HBr, HNr⟩ := hrel
    by_cases hlt : k < l.length
    · obtain ⟨v, hv⟩ : ∃ v, l[k]? = some v := ⟨_, List.getElem?_eq_getElem hlt⟩
      have hki : (k : Int) < (l.length : Int) := by omega
      have HZr := hid ((HBr.out.block _ (lt_of_block HZ.out)).trans HZ.out)
      have z0 := cell_in HZr.out 0 _ rfl
      have z1 := cell_in HZr.out 1 _ rfl
      have z2 := cell_in HZr.out 2 _ rfl
      obtain ⟨b, off, rfl, d0, d1, d2⟩ := ((HX.out.old HB.out).old HBr.out).get hv
      have HV := hid hv
      have hkv := HOK.out v (List.mem_of_getElem? hv)
      clear hv
      by_cases h0 : v.k = 0
      · have HF := hid (nullIn_at HV.out h0)
        obtain rfl := okV_null hkv h0
        clear hkv h0
        go_upto_region 4 with fail
        go_region
        go_wp2_with fail
        go_ret
        exact ⟨_, rfl, by rw [HF.out]; simp, (below_step HB.out HBr.out).drew⟩
      · have hv0 : (v.k == 0) = false := by simpa using h0
        have hv1 : ((0 : Int) == v.k) = false := by simpa using fun e => h0 e.symm
        have HT : Hid (nullIn (l.take (k + 1)) = false) := hid (by rw [nullIn_take HV.out, HNr.out, decide_eq_false h0]; rfl)
        clear hkv HV
        go_upto_region 4 with fail
        go_region
        go_wp2_with fail
        go_roundw
        case rel => exact ⟨k + 1, by omega, by go_num, HBr.out.drew, HT⟩
        case measure => simp [intOf]; omega
    · obtain rfl : k = l.length := by omega
      rw [List.take_length] at HNr
      go_wp2_with fail
      go_ret
      exact ⟨_, rfl, by rw [HNr.out]; rfl, below_step HB.out HBr.out⟩

set_option maxHeartbeats 1000000 in
theorem zcontains_any {w : World} {x : Value} {l : List Vl} (hx : Vs w x l) (hok : ∀ v ∈ l, okV v) :
    Calls Tryd.prog 46 #[x, .agg #[.int .i64 0, .int .i64 0, .string ⟨#[]⟩]] w (Ans w (.bool (nullIn l))) := by
  have HX := hid hx
  obtain ⟨a1, e1, rfl, hm⟩ := hx.form
  clear hx
  go_enter Tryd.func46, Tryd.ntmps46
  go_upto_region 1 with fail
  have hb := (Below.refl w.heap.size w).alloc (Nat.le_refl _) (.cells #[.int .i64 0, .int .i64 0, .string ⟨#[]⟩] 44)
  have hz := heap_alloc_new w (.cells #[.int .i64 0, .int .i64 0, .string ⟨#[]⟩] 44)
  generalize w.alloc (.cells #[.int .i64 0, .int .i64 0, .string ⟨#[]⟩] 44) = w1 at *
  have HB := hid hb
  have z0 := cell_in hz 0 _ rfl
  have z1 := cell_in hz 1 _ rfl
  have z2 := cell_in hz 2 _ rfl
  clear hb hz
  have CI := hid (zindex_any (HX.out.old HB.out) hok)
  go_wp2_with (first | (go_at_call 60; refine CI.out.mono ?_; rintro en w2 ⟨q, rfl, hq2, hb2⟩; have HQ := hid hq2; have HB2 := hid (below_step HB.out hb2); clear z0 z1 z2 hq2 hb2))
  go_ret
  exact ⟨by rw [← HQ.out]; rfl, HB2.out⟩

def nonNull (T : Tab) : Prop := ∀ z ∈ T.key, (colAt T.cols z).null = false
theorem pick_get {r : List Vl} {L : List Int} (hp : PlOk L r.length) {i : Nat} {z : Int} {v : Vl} (hz : L[i]? = some z) (hv : (pickL r L)[i]? = some v) : r[z.toNat]? = some v := by
  unfold pickL at hv
  rw [List.getElem?_map, hz] at hv
  obtain ⟨h1, h2⟩ := hp z (List.mem_of_getElem? hz)
  have h3 : z.toNat < r.length := by omega
  simp only [Option.map_some, Option.some.injEq] at hv
  rw [List.getD_eq_getElem?_getD, List.getElem?_eq_getElem h3] at hv
  rw [List.getElem?_eq_getElem h3, ← hv]; rfl
theorem pick_ok {T : Tab} {r : List Vl} {L : List Int} (hok : RowOk T r) (hp : PlOk L T.cols.length) : ∀ v ∈ pickL r L, okV v := fun v hv => by
  obtain ⟨i, hi⟩ := List.getElem?_of_mem hv
  have h1 := (List.getElem?_eq_some_iff.1 hi).1
  rw [pickL_len] at h1
  have hz := List.getElem?_eq_getElem h1
  have h2 := pick_get (by rw [hok.1]; exact hp) hz hi
  have h3 := (List.getElem?_eq_some_iff.1 h2).1
  exact (hok.2 _ _ v (List.getElem?_eq_getElem (by rw [← hok.1]; exact h3)) h2).1
theorem pick_in {r : List Vl} {L : List Int} (hp : PlOk L r.length) (hin : ∀ v ∈ r, inV v) : ∀ v ∈ pickL r L, inV v := fun v hv => by
  obtain ⟨i, hi⟩ := List.getElem?_of_mem hv
  have h1 := (List.getElem?_eq_some_iff.1 hi).1
  rw [pickL_len] at h1
  exact hin v (List.mem_of_getElem? (pick_get hp (List.getElem?_eq_getElem h1) hi))
theorem key_ok {T : Tab} {r : List Vl} (hok : RowOk T r) (hp : PlOk T.key T.cols.length) (hn : nonNull T) : KeyOk T (pickL r T.key) := by
  refine ⟨pickL_len _ _, fun i z v hz hv => ?_⟩
  have h2 := pick_get (by rw [hok.1]; exact hp) hz hv
  have h3 := (List.getElem?_eq_some_iff.1 h2).1
  have h4 := List.getElem?_eq_getElem (l := T.cols) (i := z.toNat) (by rw [← hok.1]; exact h3)
  obtain ⟨h5, h6⟩ := hok.2 _ _ v h4 h2
  have h7 : colAt T.cols z = T.cols[z.toNat]'(by rw [← hok.1]; exact h3) := by
    unfold colAt; rw [List.getD_eq_getElem?_getD, h4]; rfl
  refine ⟨h5, ?_⟩
  rw [h7]
  rcases h6 with h6 | ⟨-, h6⟩
  · exact h6
  · have := hn z (List.mem_of_getElem? hz)
    rw [h7, h6] at this
    cases this

/-- What the proofs ask of a table and an index of it. -/
structure TiOk (T : Tab) (X : Idx) : Prop where
  tid : i64 T.id
  xid : i64 X.id
  key : PlOk T.key T.cols.length
  cols : PlOk X.cols T.cols.length
  keyl : T.key.length ≤ 6
  coll : X.cols.length ≤ 6
  non : nonNull T
structure RwOk (T : Tab) (r : List Vl) : Prop where
  ok : RowOk T r
  inn : ∀ v ∈ r, inV v

def fullB (X : Idx) (r : List Vl) : Bool := X.uniq && !nullIn (pickL r X.cols)
def entVals (T : Tab) (X : Idx) (r : List Vl) : List Vl := if fullB X r then pickL r X.cols else pickL r X.cols ++ pickL r T.key
def entKey (T : Tab) (X : Idx) (r : List Vl) : List UInt8 := headB 120 X.id ++ encL (entVals T X r)
def entVal (T : Tab) (X : Idx) (r : List Vl) : List UInt8 := if fullB X r then nameL T (pickL r T.key) else []

theorem put3 {w : World} {b : Nat} {a0 a1 a2 : Value} {t : TypeId} (h : w.heap[b]? = some (.cells #[a0, a1, a2] t (0, 0))) (v0 v1 v2 : Value) :
    (((w.setCell ⟨b, 0, none⟩ v0).setCell ⟨b, 1, none⟩ v1).setCell ⟨b, 2, none⟩ v2).heap[b]? = some (.cells #[v0, v1, v2] t (0, 0)) ∧
    Keep (fun k => k = b) w (((w.setCell ⟨b, 0, none⟩ v0).setCell ⟨b, 1, none⟩ v1).setCell ⟨b, 2, none⟩ v2) := by
  have h1 := put_in (cs := [a0, a1, a2]) h 0 v0
  have k1 : Keep (fun k => k = b) w (w.setCell ⟨b, 0, none⟩ v0) := Keep.set _ _ _ rfl
  generalize w.setCell ⟨b, 0, none⟩ v0 = w1 at *
  have h2 := put_in h1 1 v1
  have k2 : Keep (fun k => k = b) w (w1.setCell ⟨b, 1, none⟩ v1) := k1.trans (Keep.set _ _ _ rfl)
  generalize w1.setCell ⟨b, 1, none⟩ v1 = w2 at *
  exact ⟨put_in h2 2 v2, k2.trans (Keep.set _ _ _ rfl)⟩
theorem put2 {w : World} {b : Nat} {a0 a1 : Value} {t : TypeId} (h : w.heap[b]? = some (.cells #[a0, a1] t (0, 0))) (v0 v1 : Value) :
    ((w.setCell ⟨b, 0, none⟩ v0).setCell ⟨b, 1, none⟩ v1).heap[b]? = some (.cells #[v0, v1] t (0, 0)) ∧
    Keep (fun k => k = b) w ((w.setCell ⟨b, 0, none⟩ v0).setCell ⟨b, 1, none⟩ v1) := by
  have h1 := put_in (cs := [a0, a1]) h 0 v0
  have k1 : Keep (fun k => k = b) w (w.setCell ⟨b, 0, none⟩ v0) := Keep.set _ _ _ rfl
  generalize w.setCell ⟨b, 0, none⟩ v0 = w1 at *
  exact ⟨put_in h1 1 v1, k1.trans (Keep.set _ _ _ rfl)⟩

set_option maxHeartbeats 1000000 in
theorem name_ok {N : Nat → Prop} {w : World} {cs : List Value} {T : Tab} (h : TabN N w cs T) (hi : i64 T.id) (hp : PlOk T.key T.cols.length) (hl : T.key.length ≤ 16) {x : Value} {k : List Vl} (hx : Vs w x k) (hin : ∀ v ∈ k, inV v) (hok : KeyOk T k) :
    Calls Tryd.prog 10 #[.agg cs.toArray, x] w (Gives 5 w (nameL T k)) := by
  have H0 := hid h
  have HX := hid hx
  obtain ⟨x2, y2, rfl, ⟨hx2, -⟩, ⟨hy2, -⟩, -, -⟩ := h
  obtain ⟨a1, e1, rfl, p1, p2, -⟩ := cl_cells hx2
  obtain ⟨a3, e3, rfl, -, -, -⟩ := zs_cells hy2
  obtain ⟨a2, e2, rfl, hm⟩ := hx.form
  clear hx2 hy2 hx
  go_enter Tryd.func10, Tryd.ntmps10
  go_upto_region 1 with fail
  have hb := (Below.refl w.heap.size w).alloc (Nat.le_refl _) (.cells #[.int .i64 T.id, .string ⟨T.name.toArray⟩, .slice a1 T.cols.length e1, .slice a3 T.key.length e3] 25)
  have hz := heap_alloc_new w (.cells #[.int .i64 T.id, .string ⟨T.name.toArray⟩, .slice a1 T.cols.length e1, .slice a3 T.key.length e3] 25)
  generalize w.alloc (.cells #[.int .i64 T.id, .string ⟨T.name.toArray⟩, .slice a1 T.cols.length e1, .slice a3 T.key.length e3] 25) = w1 at *
  have HB := hid hb
  have z0 := cell_in hz 0 _ rfl
  have z1 := cell_in hz 1 _ rfl
  have z2 := cell_in hz 2 _ rfl
  have z3 := cell_in hz 3 _ rfl
  clear hb hz
  have CC := hid (nameOf_ok (H0.out.old HB.out) hi hp hl (HX.out.old HB.out) hin hok)
  clear hin hok hp
  go_wp2_with (first | (go_at_call 27; refine CC.out.mono ?_; rintro en w2 ⟨v2, rfl, ho2, hb2⟩; have HB2 := hid (below_step HB.out hb2); have HO2 := hid (ownsRow_base ho2 HB.out.size); clear z0 z1 z2 z3 ho2 hb2))
  go_ret
  exact ⟨_, rfl, HO2.out, HB2.out⟩
end Go.Proofs.YtpdmocdfnakggaaDoor

set_option linter.unusedVariables false
set_option linter.unusedSimpArgs false
set_option maxRecDepth 100000
namespace Go.Proofs.YtpdmocdfnakggaaDoor
open Go.RowKit Go.Deep

/-- A pair whose bytes are the call's own. -/
def PairR (B : Nat) (w' : World) (vk vv : Value) (T : Tab) (X : Idx) (r : List Vl) : Prop :=
  w'.ownsRow B 5 1 vk (entKey T X r).length ((entKey T X r).map bv) ∧ w'.ownsRow B 5 1 vv (entVal T X r).length ((entVal T X r).map bv)
set_option maxHeartbeats 4000000 in
theorem entryOf_ok {N : Nat → Prop} {w : World} {cs ds : List Value} {T : Tab} {X : Idx} {x : Value} {r : List Vl} (h : TabN N w cs T) (h2 : IdxN N w ds X) (hti : TiOk T X) (hx : Vs w x r) (hr : RwOk T r) :
    Calls Tryd.prog 24 #[.agg cs.toArray, .agg ds.toArray, x] w (fun e w' => ∃ vk vv, e = .returned (.tuple #[.agg #[vk, vv, .int .i64 0], .nilIface]) ∧ PairR w.heap.size w' vk vv T X r ∧ Below w.heap.size w w') := by
  have H0 := hid h
  have HX := hid hx
  have HT := hid hti
  have HR := hid hr
  obtain ⟨x2, y2, rfl, ⟨hx2, -⟩, ⟨hy2, -⟩, -, -⟩ := h
  obtain ⟨x4, rfl, ⟨hx4, -⟩, -⟩ := h2
  have HX4 := hid hx4
  obtain ⟨a1, e1, rfl, p1, p2, -⟩ := cl_cells hx2
  obtain ⟨a3, e3, rfl, -, -, -⟩ := zs_cells hy2
  obtain ⟨a4, e4, rfl, -, -, -⟩ := zs_cells hx4
  obtain ⟨a2, e2, rfl, hm⟩ := hx.form
  clear hx2 hy2 hx4 hx hti hr
  have hnr : r.length = T.cols.length := HR.out.ok.1
  have HKR : Hid (PlOk T.key r.length) := hid (by rw [hnr]; exact HT.out.key)
  have HCR : Hid (PlOk X.cols r.length) := hid (by rw [hnr]; exact HT.out.cols)
  have HKO := hid (key_ok HR.out.ok HT.out.key HT.out.non)
  have HPO := hid (pick_ok HR.out.ok HT.out.cols)
  have HPK := hid (pick_ok HR.out.ok HT.out.key)
  have HPI := hid (pick_in HCR.out HR.out.inn)
  have HPJ := hid (pick_in HKR.out HR.out.inn)
  clear hnr
  go_enter Tryd.func24, Tryd.ntmps24
  go_upto_region 1 with fail
  have hb := (Below.refl w.heap.size w).alloc (Nat.le_refl _) (.cells #[.int .i64 T.id, .string ⟨T.name.toArray⟩, .slice a1 T.cols.length e1, .slice a3 T.key.length e3] 25)
  have hz := heap_alloc_new w (.cells #[.int .i64 T.id, .string ⟨T.name.toArray⟩, .slice a1 T.cols.length e1, .slice a3 T.key.length e3] 25)
  have hs : (w.alloc (.cells #[.int .i64 T.id, .string ⟨T.name.toArray⟩, .slice a1 T.cols.length e1, .slice a3 T.key.length e3] 25)).heap.size = w.heap.size + 1 := by simp
  generalize w.alloc (.cells #[.int .i64 T.id, .string ⟨T.name.toArray⟩, .slice a1 T.cols.length e1, .slice a3 T.key.length e3] 25) = w1 at *
  have hb2 := (Below.refl w1.heap.size w1).alloc (Nat.le_refl _) (.cells #[.int .i64 X.id, .int .i64 X.table, .string ⟨X.name.toArray⟩, .slice a4 X.cols.length e4, .bool X.uniq, .int .i64 X.state, .bool X.bad] 27)
  have hx2 := heap_alloc_new w1 (.cells #[.int .i64 X.id, .int .i64 X.table, .string ⟨X.name.toArray⟩, .slice a4 X.cols.length e4, .bool X.uniq, .int .i64 X.state, .bool X.bad] 27)
  have hs2 : (w1.alloc (.cells #[.int .i64 X.id, .int .i64 X.table, .string ⟨X.name.toArray⟩, .slice a4 X.cols.length e4, .bool X.uniq, .int .i64 X.state, .bool X.bad] 27)).heap.size = w1.heap.size + 1 := by simp
  generalize w1.alloc (.cells #[.int .i64 X.id, .int .i64 X.table, .string ⟨X.name.toArray⟩, .slice a4 X.cols.length e4, .bool X.uniq, .int .i64 X.state, .bool X.bad] 27) = w2 at *
  have hb3 := (Below.refl w2.heap.size w2).alloc (Nat.le_refl _) (.cells #[.slice none 0 0, .slice none 0 0, .int .i64 0] 34)
  have hp3 := heap_alloc_new w2 (.cells #[.slice none 0 0, .slice none 0 0, .int .i64 0] 34)
  generalize w2.alloc (.cells #[.slice none 0 0, .slice none 0 0, .int .i64 0] 34) = w3 at *
  have hz2 := (hb2.block _ (lt_of_block hz)).trans hz
  have HZ := hid ((hb3.block _ (lt_of_block hz2)).trans hz2)
  rw [hs] at hx2 hs2
  have HI := hid ((hb3.block _ (lt_of_block hx2)).trans hx2)
  rw [hs2] at hp3
  have HP := hid hp3
  have HB := hid (below_step (below_step hb hb2) hb3)
  clear hb hb2 hb3 hz hz2 hx2 hp3 hs hs2
  have z0 := cell_in HZ.out 0 _ rfl
  have z1 := cell_in HZ.out 1 _ rfl
  have z2 := cell_in HZ.out 2 _ rfl
  have z3 := cell_in HZ.out 3 _ rfl
  have CK := hid (keyOf_ok (H0.out.old HB.out) HT.out.key (by have := HT.out.keyl; omega) (HX.out.old HB.out) HR.out.ok)
  go_upto_region 4 with (first
    | (go_at_call 28; refine CK.out.mono ?_; rintro en w4 ⟨v4, rfl, ho4, hb4⟩; have HB4 := hid (below_step HB.out hb4); have HK4 : Hid (Vs w4 v4 (pickL r T.key)) := hid (Vs.own (by rw [pickL_len]; exact ho4)); have HZ4 := hid ((hb4.block _ (lt_of_block HZ.out)).trans HZ.out); have HI4 := hid ((hb4.block _ (lt_of_block HI.out)).trans HI.out); have HP4 := hid ((hb4.block _ (lt_of_block HP.out)).trans HP.out); clear z0 z1 z2 z3 ho4 hb4 CK HZ HI HP))
  have i3 := cell_in HI4.out 3 _ rfl
  have CP := hid (pickV_ok (HX.out.old HB4.out) (HX4.out.old HB4.out) HCR.out (by have := HT.out.coll; omega))
  go_upto_region 7 with (first
    | (go_at_call 44; refine CP.out.mono ?_; rintro en w5 ⟨v5, rfl, ho5, hb5⟩; have HB5 := hid (below_step HB4.out hb5); have HO5 := hid (ownsRow_base ho5 HB4.out.size); have HOW0 : Hid (∀ k, v5.ownBlock = some k → w.heap.size + 3 ≤ k) := hid (fun k hk => by have := (ho5.lt k hk).1; have := lt_of_block HP4.out; omega); have HK5 := hid (HK4.out.old hb5); have HZ5 := hid ((hb5.block _ (lt_of_block HZ4.out)).trans HZ4.out); have HI5 := hid ((hb5.block _ (lt_of_block HI4.out)).trans HI4.out); have HP5 := hid ((hb5.block _ (lt_of_block HP4.out)).trans HP4.out); clear i3 ho5 hb5 CP HZ4 HI4 HP4 HK4))
  have HOW : Hid (∀ k, v5.ownBlock = some k → w.heap.size + 3 ≤ k) := HOW0
  clear HOW0
  have HV5 : Hid (Vs w5 v5 (pickL r X.cols)) := hid (Vs.own (by rw [pickL_len]; exact HO5.out))
  have HSS : Hid (w.heap.size + 2 < w5.heap.size) := hid (lt_of_block HP5.out)
  have i4 := cell_in HI5.out 4 _ rfl
  have CC := hid (zcontains_any HV5.out HPO.out)
  cases hu : X.uniq with
  | true =>
    cases hn : nullIn (pickL r X.cols) with
    | false =>
      have HF : Hid (fullB X r = true) := hid (by unfold fullB; rw [hu, hn]; rfl)
      rw [hu] at i4
      rw [hn] at CC
      clear hu hn
      go_upto_region 9 with (first
        | (go_at_call 46; refine CC.out.mono ?_; rintro en w6 ⟨rfl, hb6⟩; have HB6 := hid (below_step HB5.out hb6); have HK6 := hid (HK5.out.old hb6); have HO6 := hid (own_old HO5.out hb6); have HV6 := hid (HV5.out.old hb6); have HZ6 := hid ((hb6.block _ (lt_of_block HZ5.out)).trans HZ5.out); have HI6 := hid ((hb6.block _ (lt_of_block HI5.out)).trans HI5.out); have HP6 := hid ((hb6.block _ (lt_of_block HP5.out)).trans HP5.out); clear i4 hb6 CC HZ5 HI5 HP5 HK5 HO5 HV5))
      have z0 := cell_in HZ6.out 0 _ rfl
      have z1 := cell_in HZ6.out 1 _ rfl
      have z2 := cell_in HZ6.out 2 _ rfl
      have z3 := cell_in HZ6.out 3 _ rfl
      have CN := hid (nameOf_ok (H0.out.old HB6.out) HT.out.tid HT.out.key (by have := HT.out.keyl; omega) HK6.out HPJ.out HKO.out)
      go_upto_region 13 with (first
        | (go_at_call 27; refine CN.out.mono ?_; rintro en w7 ⟨v7, rfl, ho7, hb7⟩; have HB7 := hid (below_step HB6.out hb7); have HR7 := hid (ownsRow_base ho7 (show w.heap.size + 3 ≤ w6.heap.size by have := lt_of_block HP6.out; omega)); have HV7 := hid (HV6.out.old hb7); have HI7 := hid ((hb7.block _ (lt_of_block HI6.out)).trans HI6.out); have HP7 := hid ((hb7.block _ (lt_of_block HP6.out)).trans HP6.out); clear z0 z1 z2 z3 ho7 hb7 CN HZ6 HI6 HP6 HK6 HV6 HO6))
      have i0 := cell_in HI7.out 0 _ rfl
      have CH := hid (head_any w7 120 X.id (by decide) (by decide) HT.out.xid)
      go_upto_region 16 with (first
        | (go_at_call 34; refine CH.out.mono ?_; rintro en w8 ⟨v8, rfl, ho8, hb8⟩; have HB8 := hid (below_step HB7.out hb8); have HR8 := hid (own_old HR7.out hb8); have HP8 := hid ((hb8.block _ (lt_of_block HP7.out)).trans HP7.out); have CB := hid (behind_ok (Rd.own ho8) (HV7.out.old hb8) HPI.out HPO.out (by rw [pickL_len]; have := HT.out.coll; omega) (by have := headB_len 120 X.id; omega)); clear i0 ho8 hb8 CH HI7 HP7 HV7)
        | (go_at_call 47; refine CB.out.mono ?_; rintro en w9 ⟨v9, rfl, ho9, hb9⟩; have HB9 := hid (below_step HB8.out hb9); have HR9 := hid (own_old HR8.out hb9); have HE9 := hid (ownsRow_base ho9 (show w.heap.size + 3 ≤ w8.heap.size by have := lt_of_block HP8.out; omega)); have HP9 := hid ((hb9.block _ (lt_of_block HP8.out)).trans HP8.out); clear ho9 hb9 CB HP8))
      obtain ⟨a9, c9, rfl, -⟩ := zown_rd HE9.out
      obtain ⟨a7, c7, rfl, -⟩ := zown_rd HR9.out
      have u0 := cell_in HP9.out 0 _ rfl
      have u0f := free_in HP9.out 0
      have u1 := cell_in HP9.out 1 _ rfl
      have u1f := free_in HP9.out 1
      have u2 := cell_in HP9.out 2 _ rfl
      have u2f := free_in HP9.out 2
      have HVV : Hid (entVal T X r = nameL T (pickL r T.key)) := hid (by unfold entVal; rw [HF.out]; rfl)
      have HVK : Hid (entKey T X r = headB 120 X.id ++ encL (pickL r X.cols)) := hid (by unfold entKey entVals; rw [HF.out]; rfl)
      generalize nameL T (pickL r T.key) = LA at *
      generalize headB 120 X.id ++ encL (pickL r X.cols) = LB at *
      go_wp2_with fail
      obtain ⟨g1, g2⟩ := put3 HP9.out (.slice a9 LB.length c9) (.slice a7 LA.length c7) (.int .i64 0)
      generalize ((w9.setCell ⟨w.heap.size + 2, 0, none⟩ (.slice a9 LB.length c9)).setCell ⟨w.heap.size + 2, 1, none⟩ (.slice a7 LA.length c7)).setCell ⟨w.heap.size + 2, 2, none⟩ (.int .i64 0) = s9 at *
      refine bodyPost_ret (results_cell2 rfl _ _ (w.heap.size + 2) 34 _ (0, 0) _ rfl g1 Tryd.underlying34 rfl (by kernel_rfl)) rfl ?_
      refine ⟨_, _, rfl, ⟨?_, ?_⟩, HB9.out.trans (g2.below HB9.out.size (fun k e => by have e8 : k = w.heap.size + 1 + 1 := e; omega))⟩
      · rw [HVK.out]; exact ownsRow_base (own_keep HE9.out g2 (fun k hk e => by have e8 : k = w.heap.size + 1 + 1 := e; have := (HE9.out.lt k hk).1; omega)) (by omega)
      · rw [HVV.out]; exact ownsRow_base (own_keep HR9.out g2 (fun k hk e => by have e8 : k = w.heap.size + 1 + 1 := e; have := (HR9.out.lt k hk).1; omega)) (by omega)
    | true =>
      have HF : Hid (fullB X r = false) := hid (by unfold fullB; rw [hu, hn]; rfl)
      rw [hu] at i4
      rw [hn] at CC
      clear hu hn
      go_upto_region 10 with (first
        | (go_at_call 46; refine CC.out.mono ?_; rintro en w6 ⟨rfl, hb6⟩; have HB6 := hid (below_step HB5.out hb6); have HK6 := hid (HK5.out.old hb6); have HO6 := hid (own_old HO5.out hb6); have HV6 := hid (HV5.out.old hb6); have HZ6 := hid ((hb6.block _ (lt_of_block HZ5.out)).trans HZ5.out); have HI6 := hid ((hb6.block _ (lt_of_block HI5.out)).trans HI5.out); have HP6 := hid ((hb6.block _ (lt_of_block HP5.out)).trans HP5.out); clear i4 hb6 CC HZ5 HI5 HP5 HK5 HO5 HV5))
      have HB7n := HB6
      go_upto_region 13 with (first
        | (at_builtin; refine wp_vapp rfl _ _ 28 rfl w.heap.size 44 Tryd.underlying28 _ info_val (by decide) _ _ _ rfl HO6.out _ (pickL r T.key) rfl HK6.out ?c1 ?c2 ?_))
      case c1 => rw [pickL_len]; have := HT.out.coll; have := HT.out.keyl; omega
      case c2 => exact HB6.out.size
      intro v7 w7 o7 g7
      have HB7 : Hid (Below w.heap.size w w7) := hid (HB6.out.grown g7 HB6.out.size (fun j hj => (HO6.out.lt j hj).1))
      have HV7 : Hid (Vs w7 v7 (pickL r X.cols ++ pickL r T.key)) := hid (Vs.own (by rw [List.length_append, pickL_len, cellsL_app]; exact o7))
      have HI7 := hid (heap_kept g7 HI6.out (fun e => by have := (HOW.out (w.heap.size + 1) e.symm); omega))
      have HP7 := hid (heap_kept g7 HP6.out (fun e => by have := (HOW.out (w.heap.size + 1 + 1) e.symm); omega))
      clear o7 g7 HI6 HP6 HO6 HK6 HB7n
      go_upto_region 13 with fail
      have i0 := cell_in HI7.out 0 _ rfl
      have CH := hid (head_any w7 120 X.id (by decide) (by decide) HT.out.xid)
      go_upto_region 16 with (first
        | (go_at_call 34; refine CH.out.mono ?_; rintro en w8 ⟨v8, rfl, ho8, hb8⟩; have HB8 := hid (below_step HB7.out hb8); have HP8 := hid ((hb8.block _ (lt_of_block HP7.out)).trans HP7.out); have CB := hid (behind_ok (Rd.own ho8) (HV7.out.old hb8) (fun v hv => by rcases List.mem_append.1 hv with hv | hv; exact HPI.out v hv; exact HPJ.out v hv) (fun v hv => by rcases List.mem_append.1 hv with hv | hv; exact HPO.out v hv; exact HPK.out v hv) (by rw [List.length_append, pickL_len, pickL_len]; have := HT.out.coll; have := HT.out.keyl; omega) (by have := headB_len 120 X.id; omega)); clear i0 ho8 hb8 CH HI7 HP7 HV7)
        | (go_at_call 47; refine CB.out.mono ?_; rintro en w9 ⟨v9, rfl, ho9, hb9⟩; have HB9 := hid (below_step HB8.out hb9); have HE9 := hid (ownsRow_base ho9 (show w.heap.size + 3 ≤ w8.heap.size by have := lt_of_block HP8.out; omega)); have HP9 := hid ((hb9.block _ (lt_of_block HP8.out)).trans HP8.out); clear ho9 hb9 CB HP8))
      obtain ⟨a9, c9, rfl, -⟩ := zown_rd HE9.out
      have u0 := cell_in HP9.out 0 _ rfl
      have u0f := free_in HP9.out 0
      have u1 := cell_in HP9.out 1 _ rfl
      have u1f := free_in HP9.out 1
      have u2 := cell_in HP9.out 2 _ rfl
      have u2f := free_in HP9.out 2
      have HVV : Hid (entVal T X r = []) := hid (by unfold entVal; rw [HF.out]; rfl)
      have HVK : Hid (entKey T X r = headB 120 X.id ++ encL (pickL r X.cols ++ pickL r T.key)) := hid (by unfold entKey entVals; rw [HF.out]; rfl)
      generalize headB 120 X.id ++ encL (pickL r X.cols ++ pickL r T.key) = LB at *
      go_wp2_with fail
      obtain ⟨g1, g2⟩ := put3 HP9.out (.slice a9 LB.length c9) (.slice none 0 0) (.int .i64 0)
      generalize ((w9.setCell ⟨w.heap.size + 2, 0, none⟩ (.slice a9 LB.length c9)).setCell ⟨w.heap.size + 2, 1, none⟩ (.slice none 0 0)).setCell ⟨w.heap.size + 2, 2, none⟩ (.int .i64 0) = s9 at *
      refine bodyPost_ret (results_cell2 rfl _ _ (w.heap.size + 2) 34 _ (0, 0) _ rfl g1 Tryd.underlying34 rfl (by kernel_rfl)) rfl ?_
      refine ⟨_, _, rfl, ⟨?_, ?_⟩, HB9.out.trans (g2.below HB9.out.size (fun k e => by have e8 : k = w.heap.size + 1 + 1 := e; omega))⟩
      · rw [HVK.out]; exact ownsRow_base (own_keep HE9.out g2 (fun k hk e => by have e8 : k = w.heap.size + 1 + 1 := e; have := (HE9.out.lt k hk).1; omega)) (by omega)
      · rw [HVV.out]; exact World.ownsRow_nil _ _ _ _
  | false =>
    have HF : Hid (fullB X r = false) := hid (by unfold fullB; rw [hu]; rfl)
    rw [hu] at i4
    clear hu CC
    go_upto_region 10 with fail
    clear i4
    have HB7n := HB5
    go_upto_region 13 with (first
      | (at_builtin; refine wp_vapp rfl _ _ 28 rfl w.heap.size 44 Tryd.underlying28 _ info_val (by decide) _ _ _ rfl HO5.out _ (pickL r T.key) rfl HK5.out ?c1 ?c2 ?_))
    case c1 => rw [pickL_len]; have := HT.out.coll; have := HT.out.keyl; omega
    case c2 => exact HB5.out.size
    intro v7 w7 o7 g7
    have HB7 : Hid (Below w.heap.size w w7) := hid (HB5.out.grown g7 HB5.out.size (fun j hj => (HO5.out.lt j hj).1))
    have HV7 : Hid (Vs w7 v7 (pickL r X.cols ++ pickL r T.key)) := hid (Vs.own (by rw [List.length_append, pickL_len, cellsL_app]; exact o7))
    have HI7 := hid (heap_kept g7 HI5.out (fun e => by have := (HOW.out (w.heap.size + 1) e.symm); omega))
    have HP7 := hid (heap_kept g7 HP5.out (fun e => by have := (HOW.out (w.heap.size + 1 + 1) e.symm); omega))
    clear o7 g7 HI5 HP5 HO5 HK5 HB7n
    go_upto_region 13 with fail
    have i0 := cell_in HI7.out 0 _ rfl
    have CH := hid (head_any w7 120 X.id (by decide) (by decide) HT.out.xid)
    go_upto_region 16 with (first
      | (go_at_call 34; refine CH.out.mono ?_; rintro en w8 ⟨v8, rfl, ho8, hb8⟩; have HB8 := hid (below_step HB7.out hb8); have HP8 := hid ((hb8.block _ (lt_of_block HP7.out)).trans HP7.out); have CB := hid (behind_ok (Rd.own ho8) (HV7.out.old hb8) (fun v hv => by rcases List.mem_append.1 hv with hv | hv; exact HPI.out v hv; exact HPJ.out v hv) (fun v hv => by rcases List.mem_append.1 hv with hv | hv; exact HPO.out v hv; exact HPK.out v hv) (by rw [List.length_append, pickL_len, pickL_len]; have := HT.out.coll; have := HT.out.keyl; omega) (by have := headB_len 120 X.id; omega)); clear i0 ho8 hb8 CH HI7 HP7 HV7)
      | (go_at_call 47; refine CB.out.mono ?_; rintro en w9 ⟨v9, rfl, ho9, hb9⟩; have HB9 := hid (below_step HB8.out hb9); have HE9 := hid (ownsRow_base ho9 (show w.heap.size + 3 ≤ w8.heap.size by have := lt_of_block HP8.out; omega)); have HP9 := hid ((hb9.block _ (lt_of_block HP8.out)).trans HP8.out); clear ho9 hb9 CB HP8))
    obtain ⟨a9, c9, rfl, -⟩ := zown_rd HE9.out
    have u0 := cell_in HP9.out 0 _ rfl
    have u0f := free_in HP9.out 0
    have u1 := cell_in HP9.out 1 _ rfl
    have u1f := free_in HP9.out 1
    have u2 := cell_in HP9.out 2 _ rfl
    have u2f := free_in HP9.out 2
    have HVV : Hid (entVal T X r = []) := hid (by unfold entVal; rw [HF.out]; rfl)
    have HVK : Hid (entKey T X r = headB 120 X.id ++ encL (pickL r X.cols ++ pickL r T.key)) := hid (by unfold entKey entVals; rw [HF.out]; rfl)
    generalize headB 120 X.id ++ encL (pickL r X.cols ++ pickL r T.key) = LB at *
    go_wp2_with fail
    obtain ⟨g1, g2⟩ := put3 HP9.out (.slice a9 LB.length c9) (.slice none 0 0) (.int .i64 0)
    generalize ((w9.setCell ⟨w.heap.size + 2, 0, none⟩ (.slice a9 LB.length c9)).setCell ⟨w.heap.size + 2, 1, none⟩ (.slice none 0 0)).setCell ⟨w.heap.size + 2, 2, none⟩ (.int .i64 0) = s9 at *
    refine bodyPost_ret (results_cell2 rfl _ _ (w.heap.size + 2) 34 _ (0, 0) _ rfl g1 Tryd.underlying34 rfl (by kernel_rfl)) rfl ?_
    refine ⟨_, _, rfl, ⟨?_, ?_⟩, HB9.out.trans (g2.below HB9.out.size (fun k e => by have e8 : k = w.heap.size + 1 + 1 := e; omega))⟩
    · rw [HVK.out]; exact ownsRow_base (own_keep HE9.out g2 (fun k hk e => by have e8 : k = w.heap.size + 1 + 1 := e; have := (HE9.out.lt k hk).1; omega)) (by omega)
    · rw [HVV.out]; exact World.ownsRow_nil _ _ _ _
end Go.Proofs.YtpdmocdfnakggaaDoor

set_option linter.unusedVariables false
set_option linter.unusedSimpArgs false
set_option maxRecDepth 100000
namespace Go.Proofs.YtpdmocdfnakggaaDoor
open Go.RowKit Go.Deep

set_option maxHeartbeats 4000000 in
theorem entry_ok {N : Nat → Prop} {w : World} {cs ds : List Value} {T : Tab} {X : Idx} {x : Value} {r : List Vl} (h : TabN N w cs T) (h2 : IdxN N w ds X) (hti : TiOk T X) (hx : Vs w x r) (hr : RwOk T r) :
    Calls Tryd.prog 8 #[.agg cs.toArray, .agg ds.toArray, x] w (fun e w' => ∃ vk vv, e = .returned (.agg #[vk, vv, .int .i64 0]) ∧ PairR w.heap.size w' vk vv T X r ∧ Below w.heap.size w w') := by
  have H0 := hid h
  have H2 := hid h2
  have HX := hid hx
  obtain ⟨x2, y2, rfl, ⟨hx2, -⟩, ⟨hy2, -⟩, -, -⟩ := h
  obtain ⟨x4, rfl, ⟨hx4, -⟩, -⟩ := h2
  obtain ⟨a1, e1, rfl, p1, p2, -⟩ := cl_cells hx2
  obtain ⟨a3, e3, rfl, -, -, -⟩ := zs_cells hy2
  obtain ⟨a4, e4, rfl, -, -, -⟩ := zs_cells hx4
  obtain ⟨a2, e2, rfl, hm⟩ := hx.form
  clear hx2 hy2 hx4 hx
  go_enter Tryd.func8, Tryd.ntmps8
  go_upto_region 1 with fail
  have hb := (Below.refl w.heap.size w).alloc (Nat.le_refl _) (.cells #[.int .i64 T.id, .string ⟨T.name.toArray⟩, .slice a1 T.cols.length e1, .slice a3 T.key.length e3] 25)
  have hz := heap_alloc_new w (.cells #[.int .i64 T.id, .string ⟨T.name.toArray⟩, .slice a1 T.cols.length e1, .slice a3 T.key.length e3] 25)
  have hs : (w.alloc (.cells #[.int .i64 T.id, .string ⟨T.name.toArray⟩, .slice a1 T.cols.length e1, .slice a3 T.key.length e3] 25)).heap.size = w.heap.size + 1 := by simp
  generalize w.alloc (.cells #[.int .i64 T.id, .string ⟨T.name.toArray⟩, .slice a1 T.cols.length e1, .slice a3 T.key.length e3] 25) = w1 at *
  have hb2 := (Below.refl w1.heap.size w1).alloc (Nat.le_refl _) (.cells #[.int .i64 X.id, .int .i64 X.table, .string ⟨X.name.toArray⟩, .slice a4 X.cols.length e4, .bool X.uniq, .int .i64 X.state, .bool X.bad] 27)
  have hx2 := heap_alloc_new w1 (.cells #[.int .i64 X.id, .int .i64 X.table, .string ⟨X.name.toArray⟩, .slice a4 X.cols.length e4, .bool X.uniq, .int .i64 X.state, .bool X.bad] 27)
  have hs2 : (w1.alloc (.cells #[.int .i64 X.id, .int .i64 X.table, .string ⟨X.name.toArray⟩, .slice a4 X.cols.length e4, .bool X.uniq, .int .i64 X.state, .bool X.bad] 27)).heap.size = w1.heap.size + 1 := by simp
  generalize w1.alloc (.cells #[.int .i64 X.id, .int .i64 X.table, .string ⟨X.name.toArray⟩, .slice a4 X.cols.length e4, .bool X.uniq, .int .i64 X.state, .bool X.bad] 27) = w2 at *
  have hb3 := (Below.refl w2.heap.size w2).alloc (Nat.le_refl _) (.cells #[.slice none 0 0, .slice none 0 0, .int .i64 0] 34)
  have hp3 := heap_alloc_new w2 (.cells #[.slice none 0 0, .slice none 0 0, .int .i64 0] 34)
  generalize w2.alloc (.cells #[.slice none 0 0, .slice none 0 0, .int .i64 0] 34) = w3 at *
  have hz2 := (hb2.block _ (lt_of_block hz)).trans hz
  have HZ := hid ((hb3.block _ (lt_of_block hz2)).trans hz2)
  rw [hs] at hx2 hs2
  have HI := hid ((hb3.block _ (lt_of_block hx2)).trans hx2)
  rw [hs2] at hp3
  have HP := hid hp3
  have HB := hid (below_step (below_step hb hb2) hb3)
  clear hb hb2 hb3 hz hz2 hx2 hp3 hs hs2
  have z0 := cell_in HZ.out 0 _ rfl
  have z1 := cell_in HZ.out 1 _ rfl
  have z2 := cell_in HZ.out 2 _ rfl
  have z3 := cell_in HZ.out 3 _ rfl
  have i0 := cell_in HI.out 0 _ rfl
  have i1 := cell_in HI.out 1 _ rfl
  have i2 := cell_in HI.out 2 _ rfl
  have i3 := cell_in HI.out 3 _ rfl
  have i4 := cell_in HI.out 4 _ rfl
  have i5 := cell_in HI.out 5 _ rfl
  have i6 := cell_in HI.out 6 _ rfl
  have CE := hid (entryOf_ok (H0.out.old HB.out) (H2.out.old HB.out) hti (HX.out.old HB.out) hr)
  clear hti hr
  go_upto_region 2 with (first
    | (go_at_call 24; refine CE.out.mono ?_; rintro en w4 ⟨vk, vv, rfl, hp4, hb4⟩; have HB4 := hid (below_step HB.out hb4); have HR4 := hid hp4; have HBE : Hid (w.heap.size + 3 ≤ w3.heap.size) := hid (lt_of_block HP.out); have HP4 := hid ((hb4.block _ (lt_of_block HP.out)).trans HP.out); obtain ⟨ak, ck, rfl, -⟩ := zown_rd hp4.1; obtain ⟨av, cv, rfl, -⟩ := zown_rd hp4.2; clear z0 z1 z2 z3 i0 i1 i2 i3 i4 i5 i6 hb4 hp4 CE HZ HI HP))
  generalize hLA : entKey T X r = LA at *
  generalize hLB : entVal T X r = LB at *
  have hb5 := HB4.out.alloc HB4.out.size (.cells #[.slice ak LA.length ck, .slice av LB.length cv, .int .i64 0] 34)
  have hz5 := heap_alloc_new w4 (.cells #[.slice ak LA.length ck, .slice av LB.length cv, .int .i64 0] 34)
  have hp5 := (((Below.refl w4.heap.size w4).alloc (Nat.le_refl _) (.cells #[.slice ak LA.length ck, .slice av LB.length cv, .int .i64 0] 34)).block _ (lt_of_block HP4.out)).trans HP4.out
  have hr5 : (w4.alloc (.cells #[.slice ak LA.length ck, .slice av LB.length cv, .int .i64 0] 34)).ownsRow (w.heap.size + 3) 5 1 (.slice ak LA.length ck) LA.length (LA.map bv) ∧ (w4.alloc (.cells #[.slice ak LA.length ck, .slice av LB.length cv, .int .i64 0] 34)).ownsRow (w.heap.size + 3) 5 1 (.slice av LB.length cv) LB.length (LB.map bv) := by
    obtain ⟨h1, h2⟩ := HR4.out
    rw [hLA] at h1
    rw [hLB] at h2
    exact ⟨(ownsRow_base h1 HBE.out).alloc _, (ownsRow_base h2 HBE.out).alloc _⟩
  generalize w4.alloc (.cells #[.slice ak LA.length ck, .slice av LB.length cv, .int .i64 0] 34) = w5 at *
  have HB5 := hid hb5
  have HR5 := hid hr5
  have HP5 := hid hp5
  have HL := hid (And.intro hLA hLB)
  have q0 := cell_in hz5 0 _ rfl
  have q1 := cell_in hz5 1 _ rfl
  have q2 := cell_in hz5 2 _ rfl
  have u0 := cell_in hp5 0 _ rfl
  have u0f := free_in hp5 0
  have u1 := cell_in hp5 1 _ rfl
  have u1f := free_in hp5 1
  have u2 := cell_in hp5 2 _ rfl
  have u2f := free_in hp5 2
  clear hb5 hz5 hp5 hr5 hLA hLB HR4 HP4
  go_wp2_with fail
  obtain ⟨g1, g2⟩ := put3 HP5.out (.slice ak LA.length ck) (.slice av LB.length cv) (.int .i64 0)
  generalize ((w5.setCell ⟨w.heap.size + 2, 0, none⟩ (.slice ak LA.length ck)).setCell ⟨w.heap.size + 2, 1, none⟩ (.slice av LB.length cv)).setCell ⟨w.heap.size + 2, 2, none⟩ (.int .i64 0) = s9 at *
  refine bodyPost_ret (results_cell_row rfl _ _ (w.heap.size + 2) 34 _ (0, 0) _ rfl g1 Tryd.underlying34 rfl (by kernel_rfl)) rfl ?_
  refine ⟨_, _, rfl, ⟨?_, ?_⟩, HB5.out.trans (g2.below HB5.out.size (fun k e => by have e8 : k = w.heap.size + 1 + 1 := e; omega))⟩
  · rw [HL.out.1]; exact ownsRow_base (own_keep HR5.out.1 g2 (fun k hk e => by have e8 : k = w.heap.size + 1 + 1 := e; have := (HR5.out.1.lt k hk).1; omega)) (by omega)
  · rw [HL.out.2]; exact ownsRow_base (own_keep HR5.out.2 g2 (fun k hk e => by have e8 : k = w.heap.size + 1 + 1 := e; have := (HR5.out.2.lt k hk).1; omega)) (by omega)

def spLo (p : List UInt8) (l : List Vl) : List UInt8 := p ++ encL l
def spHi (p : List UInt8) (k : List Vl) : List UInt8 := if k = [] then endL p else p ++ encL k
def SpanA (p : List UInt8) (l k : List Vl) (w : World) (e : Ending) (w' : World) : Prop :=
  ∃ a1 c1 a2 c2, e = .returned (.tuple #[.agg #[.slice a1 (spLo p l).length c1, .slice a2 (spHi p k).length c2], .nilIface]) ∧ w'.ownsRow w.heap.size 5 1 (.slice a1 (spLo p l).length c1) (spLo p l).length ((spLo p l).map bv) ∧ w'.ownsRow w.heap.size 5 1 (.slice a2 (spHi p k).length c2) (spHi p k).length ((spHi p k).map bv) ∧ Below w.heap.size w w'
def SpanB (p : List UInt8) (l k : List Vl) (w : World) (e : Ending) (w' : World) : Prop :=
  ∃ a1 c1 a2 c2, e = .returned (.tuple #[.agg #[.slice a1 (spLo p l).length c1, .slice a2 (spHi p k).length c2], .int .i64 0]) ∧ Rd w' (.slice a1 (spLo p l).length c1) (spLo p l) ∧ Rd w' (.slice a2 (spHi p k).length c2) (spHi p k) ∧ Below w.heap.size w w'

/-- Where one block was written that is no error's. -/
theorem zkeeps {w w' : World} {b : Nat} {cs : Array Value} {t : TypeId} (h : Keep (fun k => k = b) w w') (hb : w.heap[b]? = some (.cells cs t (0, 0))) (ht : t ≠ 111) (h0 : 0 < b) : Keeps w w' := by
  refine ⟨h.block 0 (by have := lt_of_block hb; omega) (fun e => by have e8 : 0 = b := e; omega), fun k ds T hT hk => ?_⟩
  by_cases e : k = b
  · subst e
    rw [hk] at hb
    cases hb
    rcases hT with rfl | hT
    · exact absurd rfl ht
    · exact hT.elim
  · exact (h.block k (lt_of_block hk) e).trans hk

set_option maxHeartbeats 4000000 in
theorem span_ok {w : World} {x y z : Value} {p : List UInt8} {l k : List Vl} (hx : Rd w x p) (hy : Vs w y l) (hz : Vs w z k) (hp : p.length ≤ 1000) (hin : ∀ v ∈ l, inV v) (hok : ∀ v ∈ l, okV v) (hl : l.length ≤ 16) (hin2 : ∀ v ∈ k, inV v) (hok2 : ∀ v ∈ k, okV v) (hl2 : k.length ≤ 16) :
    Calls Tryd.prog 33 #[x, y, z] w (SpanA p l k w) := by
  have HX := hid hx
  have HY := hid hy
  have HZ := hid hz
  obtain ⟨a1, c1, rfl⟩ := zrd_form hx
  obtain ⟨a2, c2, rfl, -⟩ := hy.form
  obtain ⟨a3, c3, rfl, hm3⟩ := hz.form
  unfold maxLen at hm3
  clear hx hy hz
  have HK := hid (And.intro hin2 hok2)
  have HLL := hid (And.intro hin hok)
  clear hin hok hin2 hok2
  go_enter Tryd.func33, Tryd.ntmps33
  go_upto_region 1 with fail
  have hb := (Below.refl w.heap.size w).alloc (Nat.le_refl _) (.cells #[.slice none 0 0, .slice none 0 0] 49)
  have hz := heap_alloc_new w (.cells #[.slice none 0 0, .slice none 0 0] 49)
  generalize w.alloc (.cells #[.slice none 0 0, .slice none 0 0] 49) = w1 at *
  have HB := hid hb
  have HS := hid hz
  have CB := hid (behind_ok (HX.out.old hb) (HY.out.old hb) HLL.out.1 HLL.out.2 hl hp)
  clear hb hz
  go_upto_region 4 with (first
    | (go_at_call 47; refine CB.out.mono ?_; rintro en w2 ⟨v2, rfl, ho2, hb2⟩; have HB2 := hid (below_step HB.out hb2); have HO2 := hid ho2; have HS2 := hid ((hb2.block _ (lt_of_block HS.out)).trans HS.out); clear ho2 hb2 CB))
  have HBL : Hid (w.heap.size < w1.heap.size) := hid (lt_of_block HS.out)
  have HBL2 : Hid (w.heap.size < w2.heap.size) := hid (lt_of_block HS2.out)
  by_cases h0 : k = []
  · subst h0
    have CE := hid (end_any _ _ w2 (HX.out.old HB2.out) (by omega))
    obtain ⟨LA, hLA⟩ : ∃ LA, LA = spLo p l := ⟨_, rfl⟩
    rw [show p ++ encL l = spLo p l from rfl, ← hLA] at HO2
    have HLA := hid hLA
    clear hLA
    obtain ⟨a5, c5, rfl, -⟩ := zown_rd HO2.out
    go_wp2_with (first | (go_at_call 55; refine CE.out.mono ?_; rintro en w3 ⟨v3, rfl, ho3, hb3⟩; have HB3 := hid (below_step HB2.out hb3); have HO3 := hid (own_old HO2.out hb3); have HE3 := hid ho3; have HS3 := hid ((hb3.block _ (lt_of_block HS2.out)).trans HS2.out); obtain ⟨a6, c6, rfl, -⟩ := zown_rd ho3; have u0 := cell_in HS3.out 0 _ rfl; have u0f := free_in HS3.out 0; have u1 := cell_in HS3.out 1 _ rfl; have u1f := free_in HS3.out 1; clear ho3 hb3 CE))
    obtain ⟨g1, g2⟩ := put2 HS3.out (.slice a5 LA.length c5) (.slice a6 (endL p).length c6)
    generalize (w3.setCell ⟨w.heap.size, 0, none⟩ (.slice a5 LA.length c5)).setCell ⟨w.heap.size, 1, none⟩ (.slice a6 (endL p).length c6) = s9 at *
    refine bodyPost_ret (results_cell2 rfl _ _ w.heap.size 49 _ (0, 0) _ rfl g1 Tryd.underlying49 rfl (by kernel_rfl)) rfl ?_
    have e1 := own_keep HO3.out g2 (fun k hk e => by have e8 : k = w.heap.size := e; have := (HO3.out.lt k hk).1; have := HBL.out; omega)
    have e2 := own_keep HE3.out g2 (fun k hk e => by have e8 : k = w.heap.size := e; have := (HE3.out.lt k hk).1; have := HBL2.out; omega)
    have hB := HB3.out.trans (g2.below HB3.out.size (fun k e => by have e8 : k = w.heap.size := e; omega))
    rw [HLA.out] at e1 ⊢
    exact ⟨_, _, _, _, rfl, ownsRow_base e1 (by have := HBL.out; omega), ownsRow_base e2 (by have := HBL2.out; omega), hB⟩
  · have hk0 : ¬ (k.length : Int) = 0 := by
      have : 0 < k.length := List.length_pos_iff.2 h0
      omega
    have hk1 : ((k.length : Int) == 0) = false := by simpa using hk0
    have HN := hid h0
    clear h0
    have CD := hid (behind_ok (HX.out.old HB2.out) (HZ.out.old HB2.out) HK.out.1 HK.out.2 hl2 hp)
    go_upto_region 9 with (first | (go_at_call 47; refine CD.out.mono ?_; rintro en w3 ⟨v3, rfl, ho3, hb3⟩; have HB3 := hid (below_step HB2.out hb3); have HO3 := hid (own_old HO2.out hb3); have HE3 := hid ho3; have HS3 := hid ((hb3.block _ (lt_of_block HS2.out)).trans HS2.out); clear ho3 hb3 CD))
    obtain ⟨LA, hLA⟩ : ∃ LA, LA = spLo p l := ⟨_, rfl⟩
    obtain ⟨LB, hLB⟩ : ∃ LB, LB = spHi p k := ⟨_, rfl⟩
    rw [show p ++ encL l = spLo p l from rfl, ← hLA] at HO3
    rw [show p ++ encL k = spHi p k from (if_neg HN.out).symm, ← hLB] at HE3
    have HLA := hid hLA
    have HLB := hid hLB
    clear hLA hLB
    obtain ⟨a5, c5, rfl, -⟩ := zown_rd HO3.out
    obtain ⟨a6, c6, rfl, -⟩ := zown_rd HE3.out
    have u0 := cell_in HS3.out 0 _ rfl
    have u0f := free_in HS3.out 0
    have u1 := cell_in HS3.out 1 _ rfl
    have u1f := free_in HS3.out 1
    go_wp2_with fail
    obtain ⟨g1, g2⟩ := put2 HS3.out (.slice a5 LA.length c5) (.slice a6 LB.length c6)
    generalize (w3.setCell ⟨w.heap.size, 0, none⟩ (.slice a5 LA.length c5)).setCell ⟨w.heap.size, 1, none⟩ (.slice a6 LB.length c6) = s9 at *
    refine bodyPost_ret (results_cell2 rfl _ _ w.heap.size 49 _ (0, 0) _ rfl g1 Tryd.underlying49 rfl (by kernel_rfl)) rfl ?_
    have e1 := own_keep HO3.out g2 (fun k hk e => by have e8 : k = w.heap.size := e; have := (HO3.out.lt k hk).1; have := HBL.out; omega)
    have e2 := own_keep HE3.out g2 (fun k hk e => by have e8 : k = w.heap.size := e; have := (HE3.out.lt k hk).1; have := HBL2.out; omega)
    have hB := HB3.out.trans (g2.below HB3.out.size (fun k e => by have e8 : k = w.heap.size := e; omega))
    rw [HLA.out] at e1 ⊢
    rw [HLB.out] at e2 ⊢
    exact ⟨_, _, _, _, rfl, ownsRow_base e1 (by have := HBL.out; omega), ownsRow_base e2 (by have := HBL2.out; omega), hB⟩

set_option maxHeartbeats 4000000 in
theorem span_bad {w : World} {x y z : Value} {p : List UInt8} {l k : List Vl} (hw : 0 < w.heap.size) (hx : Rd w x p) (hy : Vs w y l) (hz : Vs w z k) (hp : p.length ≤ 1000) (hin : ∀ v ∈ l, inV v) (hin2 : ∀ v ∈ k, inV v) (hl : l.length ≤ 1000000) (hl2 : k.length ≤ 1000000) (hbad : encE l ≠ 0 ∨ encE k ≠ 0) :
    Calls Tryd.prog 33 #[x, y, z] w (fun e w' => ∃ b L, e = .returned (.tuple #[.agg #[.slice none 0 0, .slice none 0 0], .iface 109 (.pointer (some ⟨b, 0, none⟩))]) ∧ Chain w' L (.code 9) (.iface 109 (.pointer (some ⟨b, 0, none⟩))) ∧ Below w.heap.size w w') := by
  have HX := hid hx
  have HY := hid hy
  have HZ := hid hz
  obtain ⟨a1, c1, rfl⟩ := zrd_form hx
  obtain ⟨a2, c2, rfl, -⟩ := hy.form
  obtain ⟨a3, c3, rfl, hm3⟩ := hz.form
  unfold maxLen at hm3
  clear hx hy hz
  have CW := fun (s : ByteArray) T x W => wrap_any T x s W
  go_enter Tryd.func33, Tryd.ntmps33
  go_upto_region 1 with fail
  have hb := (Below.refl w.heap.size w).alloc (Nat.le_refl _) (.cells #[.slice none 0 0, .slice none 0 0] 49)
  have hz := heap_alloc_new w (.cells #[.slice none 0 0, .slice none 0 0] 49)
  generalize w.alloc (.cells #[.slice none 0 0, .slice none 0 0] 49) = w1 at *
  have HB := hid hb
  have HS := hid hz
  have HBL : Hid (w.heap.size < w1.heap.size) := hid (lt_of_block HS.out)
  have HBD := hid hbad
  by_cases h1 : encE l = 0
  · have h2 : encE k ≠ 0 := by rcases HBD.out with h | h; exact absurd h1 h; exact h
    have hok : ∀ v ∈ l, okV v := by
      unfold encE at h1
      split at h1
      · assumption
      · cases h1
    have hl16 : l.length ≤ 16 := by
      rw [encE, if_pos hok] at h1
      split at h1
      · cases h1
      · omega
    have h0 : k ≠ [] := fun e => h2 (by subst e; rfl)
    have hk0 : ¬ (k.length : Int) = 0 := by
      have : 0 < k.length := List.length_pos_iff.2 h0
      omega
    have hk1 : ((k.length : Int) == 0) = false := by simpa using hk0
    have CB := hid (behind_ok (HX.out.old hb) (HY.out.old hb) hin hok hl16 hp)
    have H2 := hid h2
    clear hb hz h1 hbad hok hin h0 h2
    go_upto_region 6 with (first
      | (go_at_call 47; refine CB.out.mono ?_; rintro en w2 ⟨v2, rfl, ho2, hb2⟩; have HB2 := hid (below_step HB.out hb2); have HS2 := hid ((hb2.block _ (lt_of_block HS.out)).trans HS.out); clear ho2 hb2 CB))
    have CD := hid (behind_bad (x := .slice a1 p.length c1) (by have := lt_of_block HS2.out; omega) (HZ.out.old HB2.out) hin2 hl2 H2.out)
    go_upto_region 8 with (first | (go_at_call 47; refine CD.out.mono ?_; rintro en w3 ⟨T3, b3, rfl, hc3, hb3⟩; have HB3 := hid (below_step HB2.out hb3); have HC3 := hid hc3; have HS3 := hid ((hb3.block _ (lt_of_block HS2.out)).trans HS2.out); clear hc3 hb3 CD))
    have HC4 := hid (HC3.out.cons (by have := lt_of_block HS3.out; omega) ⟨#[116, 111]⟩)
    have hb4 := (Below.refl w3.heap.size w3).alloc (Nat.le_refl _) (.cells #[.string ⟨#[116, 111]⟩, .iface T3 b3] 111)
    have HB4 := hid (below_step HB3.out hb4)
    have HS4 := hid ((hb4.block _ (lt_of_block HS3.out)).trans HS3.out)
    have HL3 : Hid (w.heap.size < w3.heap.size) := hid (lt_of_block HS3.out)
    have hs4 : (w3.alloc (.cells #[.string ⟨#[116, 111]⟩, .iface T3 b3] 111)).heap.size = w3.heap.size + 1 := by simp
    have HS9 := hid hs4
    clear hb4 hs4
    have u0 := cell_in HS4.out 0 _ rfl
    have u0f := free_in HS4.out 0
    have u1 := cell_in HS4.out 1 _ rfl
    have u1f := free_in HS4.out 1
    go_wp2_with (first | (go_at_call 45; refine (CW _ _ _ _).mono ?_; rintro en w4 ⟨rfl, rfl⟩))
    generalize w3.alloc (.cells #[.string ⟨#[116, 111]⟩, .iface T3 b3] 111) = w4 at *
    obtain ⟨g1, g2⟩ := put2 HS4.out (.slice none 0 0) (.slice none 0 0)
    generalize (w4.setCell ⟨w.heap.size, 0, none⟩ (.slice none 0 0)).setCell ⟨w.heap.size, 1, none⟩ (.slice none 0 0) = s9 at *
    refine bodyPost_ret (results_cell2 rfl _ _ w.heap.size 49 _ (0, 0) _ rfl g1 Tryd.underlying49 rfl (by kernel_rfl)) rfl ?_
    exact ⟨_, _, rfl, HC4.out.kept (zkeeps g2 HS4.out (by decide) hw), HB4.out.trans (g2.below HB4.out.size (fun k e => by have e8 : k = w.heap.size := e; omega))⟩
  · have CB := hid (behind_bad (x := .slice a1 p.length c1) (by have := HBL.out; omega) (HY.out.old hb) hin hl h1)
    clear hb hz h1 hbad hin hin2
    go_upto_region 3 with (first | (go_at_call 47; refine CB.out.mono ?_; rintro en w3 ⟨T3, b3, rfl, hc3, hb3⟩; have HB3 := hid (below_step HB.out hb3); have HC3 := hid hc3; have HS3 := hid ((hb3.block _ (lt_of_block HS.out)).trans HS.out); clear hc3 hb3 CB))
    have HC4 := hid (HC3.out.cons (by have := lt_of_block HS3.out; omega) ⟨#[102, 114, 111, 109]⟩)
    have hb4 := (Below.refl w3.heap.size w3).alloc (Nat.le_refl _) (.cells #[.string ⟨#[102, 114, 111, 109]⟩, .iface T3 b3] 111)
    have HB4 := hid (below_step HB3.out hb4)
    have HS4 := hid ((hb4.block _ (lt_of_block HS3.out)).trans HS3.out)
    clear hb4
    have u0 := cell_in HS4.out 0 _ rfl
    have u0f := free_in HS4.out 0
    have u1 := cell_in HS4.out 1 _ rfl
    have u1f := free_in HS4.out 1
    go_wp2_with (first | (go_at_call 45; refine (CW _ _ _ _).mono ?_; rintro en w4 ⟨rfl, rfl⟩))
    generalize w3.alloc (.cells #[.string ⟨#[102, 114, 111, 109]⟩, .iface T3 b3] 111) = w4 at *
    obtain ⟨g1, g2⟩ := put2 HS4.out (.slice none 0 0) (.slice none 0 0)
    generalize (w4.setCell ⟨w.heap.size, 0, none⟩ (.slice none 0 0)).setCell ⟨w.heap.size, 1, none⟩ (.slice none 0 0) = s9 at *
    refine bodyPost_ret (results_cell2 rfl _ _ w.heap.size 49 _ (0, 0) _ rfl g1 Tryd.underlying49 rfl (by kernel_rfl)) rfl ?_
    exact ⟨_, _, rfl, HC4.out.kept (zkeeps g2 HS4.out (by decide) hw), HB4.out.trans (g2.below HB4.out.size (fun k e => by have e8 : k = w.heap.size := e; omega))⟩
end Go.Proofs.YtpdmocdfnakggaaDoor

set_option linter.unusedVariables false
set_option linter.unusedSimpArgs false
set_option maxRecDepth 100000
namespace Go.Proofs.YtpdmocdfnakggaaDoor
open Go.RowKit Go.Deep

theorem tab_form {N : Nat → Prop} {w : World} {cs : List Value} {T : Tab} (h : TabN N w cs T) : ∃ a1 e1 a3 e3, cs = [.int .i64 T.id, .string ⟨T.name.toArray⟩, .slice a1 T.cols.length e1, .slice a3 T.key.length e3] := by
  obtain ⟨x2, y2, rfl, ⟨hx2, -⟩, ⟨hy2, -⟩, -, -⟩ := h
  obtain ⟨a1, e1, rfl, -⟩ := cl_cells hx2
  obtain ⟨a3, e3, rfl, -⟩ := zs_cells hy2
  exact ⟨a1, e1, a3, e3, rfl⟩

set_option maxHeartbeats 4000000 in
theorem rspan_ok {N : Nat → Prop} {w : World} {cs : List Value} {T : Tab} (h : TabN N w cs T) (hi : i64 T.id) {y z : Value} {l k : List Vl} (hy : Vs w y l) (hz : Vs w z k) (hin : ∀ v ∈ l, inV v) (hok : ∀ v ∈ l, okV v) (hl : l.length ≤ 16) (hin2 : ∀ v ∈ k, inV v) (hok2 : ∀ v ∈ k, okV v) (hl2 : k.length ≤ 16) :
    Calls Tryd.prog 18 #[.agg cs.toArray, y, z] w (SpanB (headB 114 T.id) l k w) := by
  obtain ⟨a1, e1, a3, e3, rfl⟩ := tab_form h
  have HY := hid hy
  have HZ := hid hz
  obtain ⟨b2, c2, rfl, -⟩ := hy.form
  obtain ⟨b3, c3, rfl, -⟩ := hz.form
  clear hy hz h
  have HK := hid (And.intro hin2 hok2)
  have HLL := hid (And.intro hin hok)
  clear hin hok hin2 hok2
  go_enter Tryd.func18, Tryd.ntmps18
  go_upto_region 1 with fail
  have hb := (Below.refl w.heap.size w).alloc (Nat.le_refl _) (.cells #[.int .i64 T.id, .string ⟨T.name.toArray⟩, .slice a1 T.cols.length e1, .slice a3 T.key.length e3] 25)
  have hz := heap_alloc_new w (.cells #[.int .i64 T.id, .string ⟨T.name.toArray⟩, .slice a1 T.cols.length e1, .slice a3 T.key.length e3] 25)
  have hs : (w.alloc (.cells #[.int .i64 T.id, .string ⟨T.name.toArray⟩, .slice a1 T.cols.length e1, .slice a3 T.key.length e3] 25)).heap.size = w.heap.size + 1 := by simp
  generalize w.alloc (.cells #[.int .i64 T.id, .string ⟨T.name.toArray⟩, .slice a1 T.cols.length e1, .slice a3 T.key.length e3] 25) = w1 at *
  have hb3 := (Below.refl w1.heap.size w1).alloc (Nat.le_refl _) (.cells #[.slice none 0 0, .slice none 0 0] 49)
  have hp3 := heap_alloc_new w1 (.cells #[.slice none 0 0, .slice none 0 0] 49)
  generalize w1.alloc (.cells #[.slice none 0 0, .slice none 0 0] 49) = w3 at *
  rw [hs] at hp3
  have HP := hid hp3
  have HB := hid (below_step hb hb3)
  have z0 := cell_in ((hb3.block _ (lt_of_block hz)).trans hz) 0 _ rfl
  clear hb hb3 hz hp3 hs
  have CH := hid (head_any w3 114 T.id (by decide) (by decide) hi)
  go_upto_region 2 with (first
    | (go_at_call 34; refine CH.out.mono ?_; rintro en w4 ⟨v4, rfl, ho4, hb4⟩; have HB4 := hid (below_step HB.out hb4); have HP4 := hid ((hb4.block _ (lt_of_block HP.out)).trans HP.out); have CS := hid (span_ok (Rd.own ho4) (HY.out.old HB4.out) (HZ.out.old HB4.out) (by have := headB_len 114 T.id; omega) HLL.out.1 HLL.out.2 hl HK.out.1 HK.out.2 hl2); clear z0 ho4 hb4 CH HP)
    | (go_at_call 33; refine CS.out.mono ?_; rintro en w5 ⟨a5, c5, a6, c6, rfl, hr5, hr6, hb5⟩; have HB5 := hid (below_step HB4.out hb5); have HR5 := hid hr5; have HR6 := hid hr6; have HP4' := hid HP4.out; have HP5 := hid ((hb5.block _ (lt_of_block HP4.out)).trans HP4.out); clear hr5 hr6 hb5 CS HP4))
  obtain ⟨LA, hLA⟩ : ∃ LA, LA = spLo (headB 114 T.id) l := ⟨_, rfl⟩
  obtain ⟨LB, hLB⟩ : ∃ LB, LB = spHi (headB 114 T.id) k := ⟨_, rfl⟩
  rw [← hLA, ← hLB]
  rw [← hLA] at HR5
  rw [← hLB] at HR6
  have HLA := hid hLA
  have HLB := hid hLB
  clear hLA hLB
  have hb6 := HB5.out.alloc HB5.out.size (.cells #[.slice a5 LA.length c5, .slice a6 LB.length c6] 49)
  have hz6 := heap_alloc_new w5 (.cells #[.slice a5 LA.length c5, .slice a6 LB.length c6] 49)
  have hp6 := (((Below.refl w5.heap.size w5).alloc (Nat.le_refl _) (.cells #[.slice a5 LA.length c5, .slice a6 LB.length c6] 49)).block _ (lt_of_block HP5.out)).trans HP5.out
  have HR5' := hid (HR5.out.alloc (.cells #[.slice a5 LA.length c5, .slice a6 LB.length c6] 49))
  have HR6' := hid (HR6.out.alloc (.cells #[.slice a5 LA.length c5, .slice a6 LB.length c6] 49))
  have hne : w.heap.size + 1 < w5.heap.size := lt_of_block HP5.out
  generalize w5.alloc (.cells #[.slice a5 LA.length c5, .slice a6 LB.length c6] 49) = w6 at *
  have HB6 := hid hb6
  have HP6 := hid hp6
  have q0 := cell_in hz6 0 _ rfl
  have q1 := cell_in hz6 1 _ rfl
  have u0 := cell_in hp6 0 _ rfl
  have u0f := free_in hp6 0
  have u1 := cell_in hp6 1 _ rfl
  have u1f := free_in hp6 1
  have hne2 : ¬ w5.heap.size = w.heap.size + 1 := by omega
  have hne3 : ¬ w.heap.size + 1 = w5.heap.size := by omega
  clear hb6 hz6 hp6 HR5 HR6
  go_region_with (first | (go_at_call 35; refine (code_nil _).mono ?_; rintro en wC ⟨rfl, rfl⟩))
  all_goals
    go_wp2_with fail
    obtain ⟨g1, g2⟩ := put2 HP6.out (.slice a5 LA.length c5) (.slice a6 LB.length c6)
    have HNB : Hid (∀ k : Nat, k = w.heap.size + 1 → k < w4.heap.size) := hid (fun k e => by have := lt_of_block HP4'.out; omega)
    generalize (w6.setCell ⟨w.heap.size + 1, 0, none⟩ (.slice a5 LA.length c5)).setCell ⟨w.heap.size + 1, 1, none⟩ (.slice a6 LB.length c6) = s9 at *
    refine bodyPost_ret (results_cell2 rfl _ _ (w.heap.size + 1) 49 _ (0, 0) _ rfl (show s9.drew.heap[w.heap.size + 1]? = _ from g1) Tryd.underlying49 rfl (by kernel_rfl)) rfl ?_
    have e1 := Rd.own (own_keep HR5'.out g2 (fun k hk e => by have := (HR5'.out.lt k hk).1; have := HNB.out k e; omega))
    have e2 := Rd.own (own_keep HR6'.out g2 (fun k hk e => by have := (HR6'.out.lt k hk).1; have := HNB.out k e; omega))
    rw [HLA.out] at e1 ⊢
    rw [HLB.out] at e2 ⊢
    exact ⟨_, _, _, _, rfl, e1.old (Below.drew (Below.refl _ _)), e2.old (Below.drew (Below.refl _ _)), (HB6.out.trans (g2.below HB6.out.size (fun k e => by have e8 : k = w.heap.size + 1 := e; omega))).drew⟩

set_option maxHeartbeats 4000000 in
theorem rspan_bad {N : Nat → Prop} {w : World} {cs : List Value} {T : Tab} (hw : Ready w) (h : TabN N w cs T) (hi : i64 T.id) {y z : Value} {l k : List Vl} (hy : Vs w y l) (hz : Vs w z k) (hin : ∀ v ∈ l, inV v) (hl : l.length ≤ 1000000) (hin2 : ∀ v ∈ k, inV v) (hl2 : k.length ≤ 1000000) (hbad : encE l ≠ 0 ∨ encE k ≠ 0) :
    Calls Tryd.prog 18 #[.agg cs.toArray, y, z] w (fun e w' => e = .returned (.tuple #[.agg #[.slice none 0 0, .slice none 0 0], .int .i64 9]) ∧ Below w.heap.size w w') := by
  obtain ⟨a1, e1, a3, e3, rfl⟩ := tab_form h
  have HY := hid hy
  have HZ := hid hz
  have HW := hid hw
  obtain ⟨b2, c2, rfl, -⟩ := hy.form
  obtain ⟨b3, c3, rfl, -⟩ := hz.form
  clear hy hz h hw
  go_enter Tryd.func18, Tryd.ntmps18
  go_upto_region 1 with fail
  have hb := (Below.refl w.heap.size w).alloc (Nat.le_refl _) (.cells #[.int .i64 T.id, .string ⟨T.name.toArray⟩, .slice a1 T.cols.length e1, .slice a3 T.key.length e3] 25)
  have hz := heap_alloc_new w (.cells #[.int .i64 T.id, .string ⟨T.name.toArray⟩, .slice a1 T.cols.length e1, .slice a3 T.key.length e3] 25)
  have hs : (w.alloc (.cells #[.int .i64 T.id, .string ⟨T.name.toArray⟩, .slice a1 T.cols.length e1, .slice a3 T.key.length e3] 25)).heap.size = w.heap.size + 1 := by simp
  generalize w.alloc (.cells #[.int .i64 T.id, .string ⟨T.name.toArray⟩, .slice a1 T.cols.length e1, .slice a3 T.key.length e3] 25) = w1 at *
  have hb3 := (Below.refl w1.heap.size w1).alloc (Nat.le_refl _) (.cells #[.slice none 0 0, .slice none 0 0] 49)
  have hp3 := heap_alloc_new w1 (.cells #[.slice none 0 0, .slice none 0 0] 49)
  generalize w1.alloc (.cells #[.slice none 0 0, .slice none 0 0] 49) = w3 at *
  rw [hs] at hp3
  have HP := hid hp3
  have HB := hid (below_step hb hb3)
  have z0 := cell_in ((hb3.block _ (lt_of_block hz)).trans hz) 0 _ rfl
  clear hb hb3 hz hp3 hs
  have CH := hid (head_any w3 114 T.id (by decide) (by decide) hi)
  go_upto_region 2 with (first
    | (go_at_call 34; refine CH.out.mono ?_; rintro en w4 ⟨v4, rfl, ho4, hb4⟩; have HB4 := hid (below_step HB.out hb4); have HP4 := hid ((hb4.block _ (lt_of_block HP.out)).trans HP.out); have CS := hid (span_bad (by have := lt_of_block HP4.out; omega) (Rd.own ho4) (HY.out.old HB4.out) (HZ.out.old HB4.out) (by have := headB_len 114 T.id; omega) hin hin2 hl hl2 hbad); clear z0 ho4 hb4 CH HP)
    | (go_at_call 33; refine CS.out.mono ?_; rintro en w5 ⟨b5, L5, rfl, hc5, hb5⟩; have HB5 := hid (below_step HB4.out hb5); have HC5 := hid hc5; have HP5 := hid ((hb5.block _ (lt_of_block HP4.out)).trans HP4.out); clear hc5 hb5 CS HP4))
  clear hin hin2 hbad
  have hb6 := HB5.out.alloc HB5.out.size (.cells #[.slice none 0 0, .slice none 0 0] 49)
  have hbk := (Below.refl w5.heap.size w5).alloc (Nat.le_refl _) (.cells #[.slice none 0 0, .slice none 0 0] 49)
  have hz6 := heap_alloc_new w5 (.cells #[.slice none 0 0, .slice none 0 0] 49)
  have hp6 := (hbk.block _ (lt_of_block HP5.out)).trans HP5.out
  have HC6 := hid (HC5.out.kept (Keeps.below hbk (by have := lt_of_block HP5.out; omega)))
  have hne : w.heap.size + 1 < w5.heap.size := lt_of_block HP5.out
  generalize w5.alloc (.cells #[.slice none 0 0, .slice none 0 0] 49) = w6 at *
  have HB6 := hid hb6
  have HP6 := hid hp6
  have HZ6 := hid hz6
  have q0 := cell_in hz6 0 _ rfl
  have q1 := cell_in hz6 1 _ rfl
  have u0 := cell_in hp6 0 _ rfl
  have u0f := free_in hp6 0
  have u1 := cell_in hp6 1 _ rfl
  have u1f := free_in hp6 1
  have hne2 : ¬ w5.heap.size = w.heap.size + 1 := by omega
  have hne3 : ¬ w.heap.size + 1 = w5.heap.size := by omega
  clear hb6 hz6 hp6 hbk
  have HRY : Hid (Ready w6.drew) := hid (HW.out.kept (Keeps.below HB6.out.drew HW.out.lt))
  have CC := hid (code_any w6.drew L5 (.code 9) _ HRY.out (HC6.out.kept (Keeps.below (Below.drew (Below.refl _ _)) (by have := lt_of_block HP6.out; omega))))
  go_region_with (first | (go_at_call 35; refine CC.out.mono ?_; rintro en wC ⟨rfl, hbC⟩; have HBC := hid (below_step HB6.out.drew hbC); have HPC := hid ((hbC.block _ (show _ < w6.drew.heap.size from lt_of_block HP6.out)).trans (show w6.drew.heap[w.heap.size + 1]? = _ from HP6.out)); have HZC := hid ((hbC.block _ (show _ < w6.drew.heap.size from lt_of_block HZ6.out)).trans (show w6.drew.heap[w5.heap.size]? = _ from HZ6.out)); have q0c := cell_in HZC.out 0 _ rfl; have q1c := cell_in HZC.out 1 _ rfl; have u0c := cell_in HPC.out 0 _ rfl; have u0cf := free_in HPC.out 0; have u1c := cell_in HPC.out 1 _ rfl; have u1cf := free_in HPC.out 1; clear hbC))
  all_goals
    go_wp2_with fail
    obtain ⟨g1, g2⟩ := put2 HPC.out (.slice none 0 0) (.slice none 0 0)
    generalize (wC.setCell ⟨w.heap.size + 1, 0, none⟩ (.slice none 0 0)).setCell ⟨w.heap.size + 1, 1, none⟩ (.slice none 0 0) = s9 at *
    refine bodyPost_ret (results_cell2 rfl _ _ (w.heap.size + 1) 49 _ (0, 0) _ rfl g1 Tryd.underlying49 rfl (by kernel_rfl)) rfl ?_
    exact ⟨rfl, HBC.out.trans (g2.below HBC.out.size (fun k e => by have e8 : k = w.heap.size + 1 := e; omega))⟩
end Go.Proofs.YtpdmocdfnakggaaDoor

