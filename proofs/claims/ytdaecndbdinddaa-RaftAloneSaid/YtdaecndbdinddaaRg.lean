/-
  RAFT: a group of one: add.
-/
import Derived.Test.YtdaecndbdinddaaRe
import Derived.Test.YtdaecndbdinddaaRf
import Derived.Deep.CutRange
set_option linter.unusedVariables false
set_option linter.unusedSimpArgs false
set_option maxRecDepth 100000
namespace Go.Proofs.Ytdaecndbdinddaa
open Go.RowKit Go.Deep

/-- A node of a group of one. -/
structure One (B : Nat) (w : World) (b : Nat) (l : Lo) (role ld : Int) (cm : Nat) (tk : Int) (v : Bool) : Prop where
  nd : NdAt w b 0 1 l role ld cm tk v
  lo : LoAt w l
  own : Own3 B w l
  ob : ∀ k, (Value.slice l.eo l.es.length l.ec).ownBlock = some k → k ≠ b
  off : LoOff l (fun k => k = b)
  bb : B ≤ b
/-- What a call of it leaves alone. -/
def XO (b : Nat) (l : Lo) : Nat → Prop := fun k => k = b ∨ (Value.slice l.eo l.es.length l.ec).ownBlock = some k
section
variable {B : Nat} {w w' : World} {b : Nat} {l : Lo} {role ld : Int} {cm : Nat} {tk : Int} {v : Bool}
theorem One.old (h : One B w b l role ld cm tk v) (hb : Below w.heap.size w w') : One B w' b l role ld cm tk v :=
  ⟨h.nd.old hb, h.lo.old hb, ⟨own_old h.own.own hb, h.own.eoff, h.own.soff⟩, h.ob, h.off, h.bb⟩
/-- The log with one entry more. -/
def Lo.more (l : Lo) (po : Option Addr) (pc : Nat) (r : Rc) : Lo := ⟨l.ht, l.hv, l.si, l.st, l.sd, po, pc, l.es ++ [⟨l.ht, l.si + l.es.length + 1, r⟩]⟩
theorem more_len (l : Lo) (po : Option Addr) (pc : Nat) (r : Rc) : (l.more po pc r).es.length = l.es.length + 1 := by simp [Lo.more]
theorem more_term (l : Lo) (po : Option Addr) (pc : Nat) (r : Rc) : termOf (l.more po pc r) (l.si + l.es.length + 1) = l.ht := by
  unfold termOf Lo.more
  simp only
  rw [if_neg (by omega), show l.si + l.es.length + 1 - l.si - 1 = l.es.length from by omega, List.getElem?_append_right (Nat.le_refl _), Nat.sub_self]
  rfl
/-- Behind an append, and the store of the new row. -/
theorem One.more (h : One B w b l role ld cm tk v) (r : Rc) (hr : Rd w (rcv r) r.b) (hrl : r.b.length ≤ 140737488355328) (hro : r.b ≠ [] → ∀ a, r.a = some a → ¬ XO b l a.block) (hm : l.si + l.es.length + 1 < 18446744073709551616) (hlen : l.es.length + 1 ≤ 140737488355328)
    {V : World} (hV : Below w.heap.size w V) (o : Obj) {V' : World} {v' : Value}
    (o5 : V'.ownsRow B 58 3 v' (l.es.length + [rowE (⟨l.ht, l.si + l.es.length + 1, r⟩ : En)].length) ((l.es.map rowE).flatten ++ [rowE (⟨l.ht, l.si + l.es.length + 1, r⟩ : En)].flatten)) (g5 : (V.alloc o).grownBy V' (Value.slice l.eo l.es.length l.ec).ownBlock) (f5 : ∀ j, v'.ownBlock = some j → (Value.slice l.eo l.es.length l.ec).ownBlock = some j ∨ (V.alloc o).heap.size ≤ j) :
    ∃ po pc, v' = .slice po (l.es.length + 1) pc ∧ NdAt V' b 0 1 l role ld cm tk v ∧ One B (V'.setCell ⟨b, 7, none⟩ (.slice po (l.es.length + 1) pc)) b (l.more po pc r) role ld cm tk v ∧ Keep (XO b l) w (V'.setCell ⟨b, 7, none⟩ (.slice po (l.es.length + 1) pc)) := by
  have hba : Below w.heap.size w (V.alloc o) := hV.alloc hV.size _
  have hsz : w.heap.size ≤ (V.alloc o).heap.size := hba.size
  obtain ⟨po, pc, rfl⟩ := own_form o5
  have hL : l.es.length + [rowE (⟨l.ht, l.si + l.es.length + 1, r⟩ : En)].length = l.es.length + 1 := rfl
  rw [hL] at o5 f5 ⊢
  have hk5 : Keep (fun j => (Value.slice l.eo l.es.length l.ec).ownBlock = some j) (V.alloc o) V' := Keep.of_grown g5 (fun _ e => e)
  have hbl := h.nd.lt
  have hnd : NdAt V' b 0 1 l role ld cm tk v := (hk5.block _ (by omega) (fun e => h.ob _ e rfl)).trans ((hba.block _ hbl).trans h.nd)
  have hset := set_at (k := 7) (.slice po (l.es.length + 1) pc) hnd
  have hks := Keep.set (X := fun j => j = b) V' ⟨b, 7, none⟩ (.slice po (l.es.length + 1) pc) rfl
  have hrow : ∀ k, (Value.slice po (l.es.length + 1) pc).ownBlock = some k → k ≠ b := fun k hk e => by
    rcases f5 k hk with e8 | e8
    · exact h.ob k e8 e
    · omega
  have hrd : ∀ (x : Rc), Rd w (rcv x) x.b → (x.b ≠ [] → ∀ a, x.a = some a → ¬ XO b l a.block) → Rd (V'.setCell ⟨b, 7, none⟩ (.slice po (l.es.length + 1) pc)) (rcv x) x.b := fun x hx hoff =>
    ((hx.old hba).keep hk5 (fun hne j hj e9 => by
      obtain ⟨a9, ha9, hak⟩ := blk_of hj
      exact hoff hne a9 ha9 (.inr (by rw [hak]; exact e9)))).keep hks (fun hne j hj e9 => by
      obtain ⟨a9, ha9, hak⟩ := blk_of hj
      exact hoff hne a9 ha9 (.inl (by rw [hak]; exact e9)))
  have hall : ∀ y ∈ (l.more po pc r).es, (Rd w (rcv y.r) y.r.b ∧ y.t < 18446744073709551616 ∧ y.i < 18446744073709551616 ∧ y.r.b.length ≤ 140737488355328) ∧ (y.r.b ≠ [] → ∀ a, y.r.a = some a → ¬ XO b l a.block) := fun y hy => by
    rcases List.mem_append.1 hy with hy | hy
    · exact ⟨h.lo.es.2 y hy, fun hne a ha e => e.elim (h.off.2.1 y hy hne a ha) (fun e => h.own.eoff y hy hne a ha e)⟩
    · obtain rfl := List.mem_singleton.1 hy
      exact ⟨⟨hr, h.lo.ht, hm, hrl⟩, hro⟩
  have hnew : ∀ (x : Rc), Rd w (rcv x) x.b → (x.b ≠ [] → ∀ a, x.a = some a → ¬ XO b l a.block) → x.b ≠ [] → ∀ a, x.a = some a → (Value.slice po (l.es.length + 1) pc).ownBlock ≠ some a.block := fun x hx hoff hne a ha e9 => by
    have h1 := rd_block hx hne a ha
    rcases f5 _ e9 with e8 | e8
    · exact hoff hne a ha (.inr e8)
    · omega
  have hsoff : l.sd.b ≠ [] → ∀ a, l.sd.a = some a → ¬ XO b l a.block := fun hne a ha e => e.elim (h.off.1 hne a ha) (fun e => h.own.soff hne a ha e)
  have hfl : (l.es.map rowE).flatten ++ [rowE (⟨l.ht, l.si + l.es.length + 1, r⟩ : En)].flatten = ((l.more po pc r).es.map rowE).flatten := by
    unfold Lo.more
    rw [List.map_append, List.flatten_append]
    rfl
  rw [hfl] at o5
  have hown : (V'.setCell ⟨b, 7, none⟩ (.slice po (l.es.length + 1) pc)).ownsRow B 58 3 (.slice po (l.es.length + 1) pc) (l.es.length + 1) ((l.more po pc r).es.map rowE).flatten := own_keep o5 hks (fun j hj e => hrow j hj e)
  have hlen2 := more_len l po pc r
  refine ⟨po, pc, rfl, hnd, ⟨?_, ⟨hrd l.sd h.lo.sd hsoff, ?_, h.lo.ht, h.lo.si, h.lo.st, h.lo.hv, h.lo.sl, by rw [hlen2]; exact hlen⟩, ⟨?_, fun e he hne a ha => ?_, fun hne a ha => ?_⟩, fun k hk => ?_, ⟨fun hne a ha e => h.off.1 hne a ha e, fun e he hne a ha e9 => (hall e he).2 hne a ha (.inl e9), fun hne a ha e9 => ?_⟩, h.bb⟩, ?_⟩
  · unfold NdAt ndc
    rw [hlen2]
    exact hset
  · refine ents_own (B := B) (by rw [hlen2]; exact hown) (fun y hy => ⟨hrd y.r (hall y hy).1.1 (hall y hy).2, (hall y hy).1.2⟩)
  · rw [hlen2]
    exact hown
  · rw [hlen2]
    exact hnew e.r (hall e he).1.1 (hall e he).2 hne a ha
  · rw [hlen2]
    exact hnew l.sd h.lo.sd hsoff hne a ha
  · rw [hlen2] at hk
    exact hrow k hk
  · refine hrow a.block ?_ e9
    show (Value.slice po (l.es.length + 1) pc).ownBlock = _
    have ha' : po = some a := ha
    rw [ha']
    rfl
  · exact ((Keep.of_below hba).trans ((hk5.mono (fun k _ e => .inr e)))).trans (hks.mono (fun k _ e => .inl e))

theorem add_end {wZ wY : World} {po : Option Addr} {pc : Nat} {r : Rc} (h0 : One B w b l role ld cm tk v) (h : One B wZ b (l.more po pc r) role ld cm tk v) (hk : Keep (XO b l) w wZ)
    (hn : NdAt wY b 0 1 (l.more po pc r) role ld (max cm ((l.more po pc r).si + (l.more po pc r).es.length)) tk v) (hk2 : Keep (fun j => j = b) wZ wY) :
    (Ending.returned (.tuple #[]) = .returned (.tuple #[])) ∧ ∃ po pc, One B wY b (l.more po pc r) role ld (max cm (l.si + l.es.length + 1)) tk v ∧ Keep (XO b l) w wY := by
  rw [more_len] at hn
  have hrd : ∀ x : Rc, Rd wZ (rcv x) x.b → (x.b ≠ [] → ∀ a, x.a = some a → a.block ≠ b) → Rd wY (rcv x) x.b := fun x hx ho => hx.keep hk2 (fun hne j hj e => by
    obtain ⟨a9, ha9, hak⟩ := blk_of hj
    exact ho hne a9 ha9 (by rw [hak]; exact e))
  exact ⟨rfl, po, pc, ⟨hn, h.lo.kept hk2 h.off, ⟨own_keep h.own.own hk2 (fun j hj e => h.ob j hj e), h.own.eoff, h.own.soff⟩, h.ob, h.off, h.bb⟩, hk.trans (hk2.mono (fun k _ e => .inl e))⟩

set_option maxHeartbeats 16000000 in
theorem add1_any (h : One B w b l role ld cm tk v) (r : Rc) (hr : Rd w (rcv r) r.b) (hrl : r.b.length ≤ 140737488355328) (hro : r.b ≠ [] → ∀ a, r.a = some a → ¬ XO b l a.block) (hm : l.si + l.es.length + 1 < 18446744073709551616) (hlen : l.es.length + 1 ≤ 1000000000000) (hB : B ≤ w.heap.size) :
    Calls Try.prog 38 #[.pointer (some ⟨b, 0, none⟩), .slice r.a r.b.length r.c] w (fun e w' => e = .returned (.tuple #[]) ∧ ∃ po pc, One B w' b (l.more po pc r) role ld (max cm (l.si + l.es.length + 1)) tk v ∧ Keep (XO b l) w w') := by
  have HO := hid h
  have HR := hid hr
  have HRO := hid hro
  have hWd : Below w.heap.size w w.drew := ⟨rfl, rfl, rfl, Nat.le_refl _, fun _ _ => rfl⟩
  have HWd := hid hWd
  obtain ⟨m, hme⟩ : ∃ m, m = l.es.length := ⟨_, rfl⟩
  have HME := hid hme
  have CL : Hid (∀ W, Below w.heap.size w W → Calls Try.prog 37 #[.pointer (some ⟨b, 0, none⟩)] W (Draws W (.int .u64 ((l.si + m : Nat) : Int)))) := hid fun W hW => by rw [hme]; exact rlast_any (h.nd.old hW) (by omega)
  have CLd := hid (CL.out _ hWd)
  obtain ⟨S9, hS9⟩ : ∃ S9 : World → Prop, S9 = fun V => V.cell? ⟨b, 2, none⟩ = some (.int .u64 (l.ht : Int)) := ⟨_, rfl⟩
  have HZ : Hid (∀ V, S9 V → V.cell? ⟨b, 2, none⟩ = some (.int .u64 (l.ht : Int))) := hid fun V h9 => by
    rw [hS9] at h9
    exact h9
  have HS : Hid (∀ V, NdAt V b 0 1 l role ld cm tk v → S9 V) := hid fun V h => by
    rw [hS9]
    obtain ⟨-, -, d2, -⟩ := h.cells
    exact d2
  have HS2 : Hid (∀ V, ∀ {q : Lo}, NdAt V b 0 1 q role ld cm tk v → q.ht = l.ht → S9 V) := hid fun V q h e => by
    rw [hS9]
    obtain ⟨-, -, d2, -⟩ := h.cells
    rw [e] at d2
    exact d2
  obtain ⟨-, -, -, -, -, -, -, c7, -⟩ := h.nd.cells
  rw [← hme] at c7
  have c7d : w.drew.cell? ⟨b, 7, none⟩ = some (.slice l.eo m l.ec) := c7
  have hw1 : IntKind.u64.wrap (((l.si + m : Nat) : Int) + 1) = ((l.si + m + 1 : Nat) : Int) := by rw [wrap_u64]; omega
  have hw2 : IntKind.u64.wrap ((l.si : Int) + (m : Int) + 1) = (l.si : Int) + (m : Int) + 1 := by rw [wrap_u64]; omega
  clear hS9 hme h hr hro hWd c7
  go_enter Try.func38, Try.ntmps38
  go_upto_region 0 with fail
  refine wp_region_noPanic ?_
  refine wp_region_held_drew (S := S9) (by kernel_rfl) (HS.out _ HO.out.nd) (fun hHeld => ?_)
  have HND : Hid (One B w.drew b l role ld cm tk v) := hid (HO.out.old HWd.out)
  generalize w.drew = Wd at *
  refine wpAnyH_take (i := 0) (v := (.pointer (some ⟨b, 0, none⟩))) rfl (by kernel_rfl) (by kernel_rfl) (by kernel_rfl) (fun _ _ _ h => (show False from h).elim) ?xyRG1 ?xhRG1 ?xrRG1
  case xhRG1 => exact hHeld
  case xyRG1 => exact Or.inl ⟨by rfl, fun W9 hW => by clear hHeld; simp only [List.getElem_toArray, List.getElem_cons_succ, List.getElem_cons_zero]; go_simp⟩
  simp only [Act.put, List.getElem_toArray, List.getElem_cons_succ, List.getElem_cons_zero, List.setIfInBounds_toArray, List.set_cons_succ, List.set_cons_zero]
  refine wpAnyH_take (i := 1) (v := (.pointer (some ⟨b, 0, none⟩))) rfl (by kernel_rfl) (by kernel_rfl) (by kernel_rfl) (fun _ _ _ h => (show False from h).elim) ?xyRG2 ?xhRG2 ?xrRG2
  case xhRG2 => exact hHeld
  case xyRG2 => exact Or.inl ⟨by rfl, fun W9 hW => by clear hHeld; simp only [List.getElem_toArray, List.getElem_cons_succ, List.getElem_cons_zero]; go_simp⟩
  simp only [Act.put, List.getElem_toArray, List.getElem_cons_succ, List.getElem_cons_zero, List.setIfInBounds_toArray, List.set_cons_succ, List.set_cons_zero]
  refine wpAnyH_take (i := 2) (v := (.pointer (some ⟨b, 0, none⟩))) rfl (by kernel_rfl) (by kernel_rfl) (by kernel_rfl) (fun _ _ _ h => (show False from h).elim) ?xyRG3 ?xhRG3 ?xrRG3
  case xhRG3 => exact hHeld
  case xyRG3 => exact Or.inl ⟨by rfl, fun W9 hW => by clear hHeld; simp only [List.getElem_toArray, List.getElem_cons_succ, List.getElem_cons_zero]; go_simp⟩
  simp only [Act.put, List.getElem_toArray, List.getElem_cons_succ, List.getElem_cons_zero, List.setIfInBounds_toArray, List.set_cons_succ, List.set_cons_zero]
  refine wpAnyH_take (i := 3) (v := (.pointer (some ⟨b, 2, none⟩))) rfl (by kernel_rfl) (by kernel_rfl) (by kernel_rfl) (fun _ _ _ h => (show False from h).elim) ?xyRG4 ?xhRG4 ?xrRG4
  case xhRG4 => exact hHeld
  case xyRG4 => exact Or.inl ⟨by rfl, fun W9 hW => by clear hHeld; simp only [List.getElem_toArray, List.getElem_cons_succ, List.getElem_cons_zero]; go_simp⟩
  simp only [Act.put, List.getElem_toArray, List.getElem_cons_succ, List.getElem_cons_zero, List.setIfInBounds_toArray, List.set_cons_succ, List.set_cons_zero]
  refine wpAnyH_take (i := 4) (v := (.pointer (some ⟨b, 7, none⟩))) rfl (by kernel_rfl) (by kernel_rfl) (by kernel_rfl) (fun _ _ _ h => (show False from h).elim) ?xyRG5 ?xhRG5 ?xrRG5
  case xhRG5 => exact hHeld
  case xyRG5 => exact Or.inl ⟨by rfl, fun W9 hW => by clear hHeld; simp only [List.getElem_toArray, List.getElem_cons_succ, List.getElem_cons_zero]; go_simp⟩
  simp only [Act.put, List.getElem_toArray, List.getElem_cons_succ, List.getElem_cons_zero, List.setIfInBounds_toArray, List.set_cons_succ, List.set_cons_zero]
  refine wpAnyH_take (i := 6) (v := (.pointer (some ⟨b, 0, none⟩))) rfl (by kernel_rfl) (by kernel_rfl) (by kernel_rfl) (fun _ _ _ h => (show False from h).elim) ?xyRG6 ?xhRG6 ?xrRG6
  case xhRG6 => exact hHeld
  case xyRG6 => exact Or.inl ⟨by rfl, fun W9 hW => by clear hHeld; simp only [List.getElem_toArray, List.getElem_cons_succ, List.getElem_cons_zero]; go_simp⟩
  simp only [Act.put, List.getElem_toArray, List.getElem_cons_succ, List.getElem_cons_zero, List.setIfInBounds_toArray, List.set_cons_succ, List.set_cons_zero]
  refine wpAnyH_take (i := 7) (v := (.pointer (some ⟨b, 0, none⟩))) rfl (by kernel_rfl) (by kernel_rfl) (by kernel_rfl) (fun _ _ _ h => (show False from h).elim) ?xyRG7 ?xhRG7 ?xrRG7
  case xhRG7 => exact hHeld
  case xyRG7 => exact Or.inl ⟨by rfl, fun W9 hW => by clear hHeld; simp only [List.getElem_toArray, List.getElem_cons_succ, List.getElem_cons_zero]; go_simp⟩
  simp only [Act.put, List.getElem_toArray, List.getElem_cons_succ, List.getElem_cons_zero, List.setIfInBounds_toArray, List.set_cons_succ, List.set_cons_zero]
  refine wpAnyH_take (i := 8) (v := (.pointer (some ⟨b, 2, none⟩))) rfl (by kernel_rfl) (by kernel_rfl) (by kernel_rfl) (fun _ _ _ h => (show False from h).elim) ?xyRG8 ?xhRG8 ?xrRG8
  case xhRG8 => exact hHeld
  case xyRG8 => exact Or.inl ⟨by rfl, fun W9 hW => by clear hHeld; simp only [List.getElem_toArray, List.getElem_cons_succ, List.getElem_cons_zero]; go_simp⟩
  simp only [Act.put, List.getElem_toArray, List.getElem_cons_succ, List.getElem_cons_zero, List.setIfInBounds_toArray, List.set_cons_succ, List.set_cons_zero]
  refine wpAnyH_take (i := 9) (v := (.pointer (some ⟨b, 2, none⟩))) rfl (by kernel_rfl) (by kernel_rfl) (by kernel_rfl) (fun _ _ _ h => (show False from h).elim) ?xyRG9 ?xhRG9 ?xrRG9
  case xhRG9 => exact hHeld
  case xyRG9 => exact Or.inl ⟨by rfl, fun W9 hW => by clear hHeld; simp only [List.getElem_toArray, List.getElem_cons_succ, List.getElem_cons_zero]; go_simp⟩
  simp only [Act.put, List.getElem_toArray, List.getElem_cons_succ, List.getElem_cons_zero, List.setIfInBounds_toArray, List.set_cons_succ, List.set_cons_zero]
  refine wpAnyH_take (i := 10) (v := (.pointer (some ⟨b, 2, none⟩))) rfl (by kernel_rfl) (by kernel_rfl) (by kernel_rfl) (fun _ _ _ h => (show False from h).elim) ?xyRG10 ?xhRG10 ?xrRG10
  case xhRG10 => exact hHeld
  case xyRG10 => exact Or.inl ⟨by rfl, fun W9 hW => by clear hHeld; simp only [List.getElem_toArray, List.getElem_cons_succ, List.getElem_cons_zero]; go_simp⟩
  simp only [Act.put, List.getElem_toArray, List.getElem_cons_succ, List.getElem_cons_zero, List.setIfInBounds_toArray, List.set_cons_succ, List.set_cons_zero]
  refine wpAnyH_take (i := 11) (v := (.int .u64 (l.ht : Int))) rfl (by kernel_rfl) (by kernel_rfl) (by kernel_rfl) (fun _ _ _ h => (show False from h).elim) ?xyRG11 ?xhRG11 ?xrRG11
  case xhRG11 => exact hHeld
  case xyRG11 => exact Or.inl ⟨by rfl, fun W9 hW => by have y2 := HZ.out _ hW; clear hHeld; simp only [List.getElem_toArray, List.getElem_cons_succ, List.getElem_cons_zero]; go_simp⟩
  simp only [Act.put, List.getElem_toArray, List.getElem_cons_succ, List.getElem_cons_zero, List.setIfInBounds_toArray, List.set_cons_succ, List.set_cons_zero]
  refine wpAnyH_take (i := 12) (v := (.pointer (some ⟨b, 0, none⟩))) rfl (by kernel_rfl) (by kernel_rfl) (by kernel_rfl) (fun _ _ _ h => (show False from h).elim) ?xyRG12 ?xhRG12 ?xrRG12
  case xhRG12 => exact hHeld
  case xyRG12 => exact Or.inl ⟨by rfl, fun W9 hW => by clear hHeld; simp only [List.getElem_toArray, List.getElem_cons_succ, List.getElem_cons_zero]; go_simp⟩
  simp only [Act.put, List.getElem_toArray, List.getElem_cons_succ, List.getElem_cons_zero, List.setIfInBounds_toArray, List.set_cons_succ, List.set_cons_zero]
  refine wpAnyH_take (i := 15) (v := (.slice r.a r.b.length r.c)) rfl (by kernel_rfl) (by kernel_rfl) (by kernel_rfl) (fun _ _ _ h => (show False from h).elim) ?xyRG13 ?xhRG13 ?xrRG13
  case xhRG13 => exact hHeld
  case xyRG13 => exact Or.inl ⟨by rfl, fun W9 hW => by clear hHeld; simp only [List.getElem_toArray, List.getElem_cons_succ, List.getElem_cons_zero]; go_simp⟩
  simp only [Act.put, List.getElem_toArray, List.getElem_cons_succ, List.getElem_cons_zero, List.setIfInBounds_toArray, List.set_cons_succ, List.set_cons_zero]
  refine wpAnyH_ready (rs := [5, 13]) (by kernel_rfl) (by simp) ?_
  refine AllReadyH.cons rfl (fun K hK => ?_) (AllReadyH.cons rfl (fun K hK => ?_) AllReadyH.nil)
  · go_simp
    refine hK.out _ _ (HS.out _ HND.out.nd) (fun hHeld => ?_)
    clear hK K
    refine wpAnyH_ready (rs := [13]) (by kernel_rfl) (by simp) ?_
    refine AllReadyH.cons rfl (fun K hK => ?_) AllReadyH.nil
    go_simp
    go_wp2_with (first | (go_at_call 37; refine CLd.out.mono ?_; rintro en wT ⟨rfl, k, rfl⟩; have HBT : Hid (Below Wd.heap.size Wd (Wd.drewN k)) := hid ⟨rfl, rfl, rfl, Nat.le_refl _, fun _ _ => rfl⟩; have c7T : (Wd.drewN k).cell? ⟨b, 7, none⟩ = some (.slice l.eo m l.ec) := c7d))
    refine hK.out _ _ (HS.out _ (HND.out.nd.old HBT.out)) (fun hHeld => ?_)
    clear hK K
    generalize Wd.drewN k = wT at *
    clear c7d c7T
    refine wpAnyH_take (i := 14) (v := (.int .u64 ((l.si + m + 1 : Nat) : Int))) rfl (by kernel_rfl) (by kernel_rfl) (by kernel_rfl) (fun _ _ _ h => (show False from h).elim) ?xyRG14 ?xhRG14 ?xrRG14
    case xhRG14 => exact hHeld
    case xyRG14 => exact Or.inl ⟨by rfl, fun W9 hW => by clear hHeld; simp only [List.getElem_toArray, List.getElem_cons_succ, List.getElem_cons_zero]; go_simp⟩
    simp only [Act.put, List.getElem_toArray, List.getElem_cons_succ, List.getElem_cons_zero, List.setIfInBounds_toArray, List.set_cons_succ, List.set_cons_zero]
    refine wpAnyH_take (i := 16) (v := (.agg #[.int .u64 (l.ht : Int), .int .u64 ((l.si + m + 1 : Nat) : Int), .slice r.a r.b.length r.c])) rfl (by kernel_rfl) (by kernel_rfl) (by kernel_rfl) (fun _ _ _ h => (show False from h).elim) ?xyRG15 ?xhRG15 ?xrRG15
    case xhRG15 => exact hHeld
    case xyRG15 => exact Or.inl ⟨by rfl, fun W9 hW => by clear hHeld; simp only [List.getElem_toArray, List.getElem_cons_succ, List.getElem_cons_zero]; go_simp⟩
    simp only [Act.put, List.getElem_toArray, List.getElem_cons_succ, List.getElem_cons_zero, List.setIfInBounds_toArray, List.set_cons_succ, List.set_cons_zero]
    have HTB : Hid (Below w.heap.size w wT) := hid (HWd.out.trans (HBT.out.mono HWd.out.size))
    have HOT := hid (HND.out.old HBT.out)
    have hbu : Below wT.heap.size wT (wT.alloc (.cells #[.int .u64 (l.ht : Int), .int .u64 ((l.si + m + 1 : Nat) : Int), .slice r.a r.b.length r.c] 58)) := (Below.refl _ _).alloc (Nat.le_refl _) _
    have HRW : Hid (Rws 3 (wT.alloc (.cells #[.int .u64 (l.ht : Int), .int .u64 ((l.si + m + 1 : Nat) : Int), .slice r.a r.b.length r.c] 58)) (.slice (some ⟨wT.heap.size, 0, none⟩) 1 1) [rowE (⟨l.ht, l.si + m + 1, r⟩ : En)]) := Rws.one (r := rowE (⟨l.ht, l.si + m + 1, r⟩ : En)) rfl ⟨rfl, fun u hu => by simp only [rowE, rcv, List.mem_cons, List.not_mem_nil, or_false] at hu; rcases hu with rfl | rfl | rfl <;> rfl⟩
    have HOW0 := own_old HOT.out.own.own hbu
    rw [← HME.out] at HOW0
    have HOW := hid HOW0
    have HSW : Hid (B ≤ (wT.alloc (.cells #[.int .u64 (l.ht : Int), .int .u64 ((l.si + m + 1 : Nat) : Int), .slice r.a r.b.length r.c] 58)).heap.size) := hid (by have := HTB.out.size; have := hbu.size; omega)
    have HNB : Hid (NdAt (wT.alloc (.cells #[.int .u64 (l.ht : Int), .int .u64 ((l.si + m + 1 : Nat) : Int), .slice r.a r.b.length r.c] 58)) b 0 1 l role ld cm tk v) := hid (HOT.out.nd.old hbu)
    clear hbu HOW0
    refine wpAnyH_ready (rs := [17]) (by kernel_rfl) (by simp) ?_
    refine AllReadyH.cons rfl (fun K hK => ?_) AllReadyH.nil
    go_simp
    refine hK.out _ _ (HS.out _ HNB.out) (fun hHeld => ?_)
    clear hK K
    refine wpAnyH_ready (rs := [18]) (by kernel_rfl) (by simp) ?_
    refine AllReadyH.cons rfl (fun K hK => ?_) AllReadyH.nil
    refine step_rapp9 (.tmp 9) (.tmp 21) 30 (by rfl) B 3 40 58 Try.underlying30 _ info_entry (by simp [Value.cells]) (by decide) _ m (l.es.map rowE).flatten (by rfl) HOW.out _ [rowE (⟨l.ht, l.si + m + 1, r⟩ : En)] (by rfl) HRW.out (by have := HME.out; simp; omega) (by have := HME.out; simp [maxLen]; omega) HSW.out (by first | rfl | (simp [Region.wanted, yielded]; done)) (fun v' w' o5 g5 f5 => ?_)
    have HX9 : Hid (∃ po pc, v' = .slice po (m + 1) pc ∧ NdAt w' b 0 1 l role ld cm tk v ∧ One B (w'.setCell ⟨b, 7, none⟩ (.slice po (m + 1) pc)) b (l.more po pc r) role ld cm tk v ∧ Keep (XO b l) w (w'.setCell ⟨b, 7, none⟩ (.slice po (m + 1) pc))) := by
      have o6 := o5
      have g6 := g5
      have f6 := f5
      rw [HME.out] at o6 g6 f6 ⊢
      exact HO.out.more r HR.out hrl HRO.out hm (by omega) HTB.out _ o6 g6 f6
    clear o5 g5 f5
    obtain ⟨po, pc, rfl, hnd9, hone9, hkp9⟩ := HX9.out
    have HND9 := hid hnd9
    have HONE9 := hid hone9
    have HKP9 := hid hkp9
    obtain ⟨-, -, -, -, -, -, -, e7, -⟩ := hnd9.cells
    have f7 := hnd9.soft 7
    clear hnd9 hone9 hkp9 HX9
    refine hK.out _ _ (HS.out _ HND9.out) (fun hHeld => ?_)
    clear hK K
    simp only [Act.put, List.getElem_toArray, List.getElem_cons_succ, List.getElem_cons_zero, List.setIfInBounds_toArray, List.set_cons_succ, List.set_cons_zero]
    refine wpAnyH_take (i := 19) (v := (.pointer (some ⟨b, 0, none⟩))) rfl (by kernel_rfl) (by kernel_rfl) (by kernel_rfl) (fun _ _ _ h => (show False from h).elim) ?xyRG16 ?xhRG16 ?xrRG16
    case xhRG16 => exact hHeld
    case xyRG16 => exact Or.inl ⟨by rfl, fun W9 hW => by clear hHeld; simp only [List.getElem_toArray, List.getElem_cons_succ, List.getElem_cons_zero]; go_simp⟩
    simp only [Act.put, List.getElem_toArray, List.getElem_cons_succ, List.getElem_cons_zero, List.setIfInBounds_toArray, List.set_cons_succ, List.set_cons_zero]
    refine wpAnyH_take (i := 20) (v := (.pointer (some ⟨b, 2, none⟩))) rfl (by kernel_rfl) (by kernel_rfl) (by kernel_rfl) (fun _ _ _ h => (show False from h).elim) ?xyRG17 ?xhRG17 ?xrRG17
    case xhRG17 => exact hHeld
    case xyRG17 => exact Or.inl ⟨by rfl, fun W9 hW => by clear hHeld; simp only [List.getElem_toArray, List.getElem_cons_succ, List.getElem_cons_zero]; go_simp⟩
    simp only [Act.put, List.getElem_toArray, List.getElem_cons_succ, List.getElem_cons_zero, List.setIfInBounds_toArray, List.set_cons_succ, List.set_cons_zero]
    refine wpAnyH_take (i := 21) (v := (.pointer (some ⟨b, 7, none⟩))) rfl (by kernel_rfl) (by kernel_rfl) (by kernel_rfl) (fun _ _ _ h => (show False from h).elim) ?xyRG18 ?xhRG18 ?xrRG18
    case xhRG18 => exact hHeld
    case xyRG18 => exact Or.inl ⟨by rfl, fun W9 hW => by clear hHeld; simp only [List.getElem_toArray, List.getElem_cons_succ, List.getElem_cons_zero]; go_simp⟩
    simp only [Act.put, List.getElem_toArray, List.getElem_cons_succ, List.getElem_cons_zero, List.setIfInBounds_toArray, List.set_cons_succ, List.set_cons_zero]
    refine wpAnyH_ready (rs := [22]) (by kernel_rfl) (by simp) ?_
    refine AllReadyH.cons rfl (fun K hK => ?_) AllReadyH.nil
    go_simp
    refine hK.out _ _ (HS2.out _ HONE9.out.nd rfl) (fun hHeld => ?_)
    clear hK K
    clear e7 f7
    refine wpAnyH_done (by kernel_rfl) ?_ _
    refine NoPanic.normal ?_
    have CM := hid (fun (h1 : Hid True) => commit1_any HONE9.out.nd HONE9.out.lo (by rw [more_len]; show l.si + _ < _; omega) (by rw [more_len]; exact more_term l po pc r))
    generalize w'.setCell ⟨b, 7, none⟩ (.slice po (m + 1) pc) = wZ at *
    go_wp2_with (first | (go_at_call 62; refine (CM.out (hid trivial)).mono ?_; rintro en wY ⟨rfl, hnY, hkY⟩; have HNY := hid hnY; have HKY := hid hkY; clear hnY hkY))
    go_end0
    exact add_end HO.out HONE9.out HKP9.out HNY.out HKY.out
  · go_simp
    go_wp2_with (first | (go_at_call 37; refine CLd.out.mono ?_; rintro en wT ⟨rfl, k, rfl⟩; have HBT : Hid (Below Wd.heap.size Wd (Wd.drewN k)) := hid ⟨rfl, rfl, rfl, Nat.le_refl _, fun _ _ => rfl⟩; have c7T : (Wd.drewN k).cell? ⟨b, 7, none⟩ = some (.slice l.eo m l.ec) := c7d))
    refine hK.out _ _ (HS.out _ (HND.out.nd.old HBT.out)) (fun hHeld => ?_)
    clear hK K
    generalize Wd.drewN k = wT at *
    refine wpAnyH_take (i := 14) (v := (.int .u64 ((l.si + m + 1 : Nat) : Int))) rfl (by kernel_rfl) (by kernel_rfl) (by kernel_rfl) (fun _ _ _ h => (show False from h).elim) ?xyRG19 ?xhRG19 ?xrRG19
    case xhRG19 => exact hHeld
    case xyRG19 => exact Or.inl ⟨by rfl, fun W9 hW => by clear hHeld; simp only [List.getElem_toArray, List.getElem_cons_succ, List.getElem_cons_zero]; go_simp⟩
    simp only [Act.put, List.getElem_toArray, List.getElem_cons_succ, List.getElem_cons_zero, List.setIfInBounds_toArray, List.set_cons_succ, List.set_cons_zero]
    refine wpAnyH_take (i := 16) (v := (.agg #[.int .u64 (l.ht : Int), .int .u64 ((l.si + m + 1 : Nat) : Int), .slice r.a r.b.length r.c])) rfl (by kernel_rfl) (by kernel_rfl) (by kernel_rfl) (fun _ _ _ h => (show False from h).elim) ?xyRG20 ?xhRG20 ?xrRG20
    case xhRG20 => exact hHeld
    case xyRG20 => exact Or.inl ⟨by rfl, fun W9 hW => by clear hHeld; simp only [List.getElem_toArray, List.getElem_cons_succ, List.getElem_cons_zero]; go_simp⟩
    simp only [Act.put, List.getElem_toArray, List.getElem_cons_succ, List.getElem_cons_zero, List.setIfInBounds_toArray, List.set_cons_succ, List.set_cons_zero]
    have HTB : Hid (Below w.heap.size w wT) := hid (HWd.out.trans (HBT.out.mono HWd.out.size))
    have HOT := hid (HND.out.old HBT.out)
    have hbu : Below wT.heap.size wT (wT.alloc (.cells #[.int .u64 (l.ht : Int), .int .u64 ((l.si + m + 1 : Nat) : Int), .slice r.a r.b.length r.c] 58)) := (Below.refl _ _).alloc (Nat.le_refl _) _
    have HRW : Hid (Rws 3 (wT.alloc (.cells #[.int .u64 (l.ht : Int), .int .u64 ((l.si + m + 1 : Nat) : Int), .slice r.a r.b.length r.c] 58)) (.slice (some ⟨wT.heap.size, 0, none⟩) 1 1) [rowE (⟨l.ht, l.si + m + 1, r⟩ : En)]) := Rws.one (r := rowE (⟨l.ht, l.si + m + 1, r⟩ : En)) rfl ⟨rfl, fun u hu => by simp only [rowE, rcv, List.mem_cons, List.not_mem_nil, or_false] at hu; rcases hu with rfl | rfl | rfl <;> rfl⟩
    have HOW0 := own_old HOT.out.own.own hbu
    rw [← HME.out] at HOW0
    have HOW := hid HOW0
    have HSW : Hid (B ≤ (wT.alloc (.cells #[.int .u64 (l.ht : Int), .int .u64 ((l.si + m + 1 : Nat) : Int), .slice r.a r.b.length r.c] 58)).heap.size) := hid (by have := HTB.out.size; have := hbu.size; omega)
    have HNB : Hid (NdAt (wT.alloc (.cells #[.int .u64 (l.ht : Int), .int .u64 ((l.si + m + 1 : Nat) : Int), .slice r.a r.b.length r.c] 58)) b 0 1 l role ld cm tk v) := hid (HOT.out.nd.old hbu)
    clear hbu HOW0
    refine wpAnyH_ready (rs := [5, 17]) (by kernel_rfl) (by simp) ?_
    refine AllReadyH.cons rfl (fun K hK => ?_) (AllReadyH.cons rfl (fun K hK => ?_) AllReadyH.nil)
    · go_simp
      refine hK.out _ _ (HS.out _ HOT.out.nd) (fun hHeld => ?_)
      clear hK K c7d c7T
      refine wpAnyH_ready (rs := [17]) (by kernel_rfl) (by simp) ?_
      refine AllReadyH.cons rfl (fun K hK => ?_) AllReadyH.nil
      go_simp
      refine hK.out _ _ (HS.out _ HNB.out) (fun hHeld => ?_)
      clear hK K
      refine wpAnyH_ready (rs := [18]) (by kernel_rfl) (by simp) ?_
      refine AllReadyH.cons rfl (fun K hK => ?_) AllReadyH.nil
      refine step_rapp9 (.tmp 9) (.tmp 21) 30 (by rfl) B 3 40 58 Try.underlying30 _ info_entry (by simp [Value.cells]) (by decide) _ m (l.es.map rowE).flatten (by rfl) HOW.out _ [rowE (⟨l.ht, l.si + m + 1, r⟩ : En)] (by rfl) HRW.out (by have := HME.out; simp; omega) (by have := HME.out; simp [maxLen]; omega) HSW.out (by first | rfl | (simp [Region.wanted, yielded]; done)) (fun v' w' o5 g5 f5 => ?_)
      have HX9 : Hid (∃ po pc, v' = .slice po (m + 1) pc ∧ NdAt w' b 0 1 l role ld cm tk v ∧ One B (w'.setCell ⟨b, 7, none⟩ (.slice po (m + 1) pc)) b (l.more po pc r) role ld cm tk v ∧ Keep (XO b l) w (w'.setCell ⟨b, 7, none⟩ (.slice po (m + 1) pc))) := by
        have o6 := o5
        have g6 := g5
        have f6 := f5
        rw [HME.out] at o6 g6 f6 ⊢
        exact HO.out.more r HR.out hrl HRO.out hm (by omega) HTB.out _ o6 g6 f6
      clear o5 g5 f5
      obtain ⟨po, pc, rfl, hnd9, hone9, hkp9⟩ := HX9.out
      have HND9 := hid hnd9
      have HONE9 := hid hone9
      have HKP9 := hid hkp9
      obtain ⟨-, -, -, -, -, -, -, e7, -⟩ := hnd9.cells
      have f7 := hnd9.soft 7
      clear hnd9 hone9 hkp9 HX9
      refine hK.out _ _ (HS.out _ HND9.out) (fun hHeld => ?_)
      clear hK K
      simp only [Act.put, List.getElem_toArray, List.getElem_cons_succ, List.getElem_cons_zero, List.setIfInBounds_toArray, List.set_cons_succ, List.set_cons_zero]
      refine wpAnyH_take (i := 19) (v := (.pointer (some ⟨b, 0, none⟩))) rfl (by kernel_rfl) (by kernel_rfl) (by kernel_rfl) (fun _ _ _ h => (show False from h).elim) ?xyRG21 ?xhRG21 ?xrRG21
      case xhRG21 => exact hHeld
      case xyRG21 => exact Or.inl ⟨by rfl, fun W9 hW => by clear hHeld; simp only [List.getElem_toArray, List.getElem_cons_succ, List.getElem_cons_zero]; go_simp⟩
      simp only [Act.put, List.getElem_toArray, List.getElem_cons_succ, List.getElem_cons_zero, List.setIfInBounds_toArray, List.set_cons_succ, List.set_cons_zero]
      refine wpAnyH_take (i := 20) (v := (.pointer (some ⟨b, 2, none⟩))) rfl (by kernel_rfl) (by kernel_rfl) (by kernel_rfl) (fun _ _ _ h => (show False from h).elim) ?xyRG22 ?xhRG22 ?xrRG22
      case xhRG22 => exact hHeld
      case xyRG22 => exact Or.inl ⟨by rfl, fun W9 hW => by clear hHeld; simp only [List.getElem_toArray, List.getElem_cons_succ, List.getElem_cons_zero]; go_simp⟩
      simp only [Act.put, List.getElem_toArray, List.getElem_cons_succ, List.getElem_cons_zero, List.setIfInBounds_toArray, List.set_cons_succ, List.set_cons_zero]
      refine wpAnyH_take (i := 21) (v := (.pointer (some ⟨b, 7, none⟩))) rfl (by kernel_rfl) (by kernel_rfl) (by kernel_rfl) (fun _ _ _ h => (show False from h).elim) ?xyRG23 ?xhRG23 ?xrRG23
      case xhRG23 => exact hHeld
      case xyRG23 => exact Or.inl ⟨by rfl, fun W9 hW => by clear hHeld; simp only [List.getElem_toArray, List.getElem_cons_succ, List.getElem_cons_zero]; go_simp⟩
      simp only [Act.put, List.getElem_toArray, List.getElem_cons_succ, List.getElem_cons_zero, List.setIfInBounds_toArray, List.set_cons_succ, List.set_cons_zero]
      refine wpAnyH_ready (rs := [22]) (by kernel_rfl) (by simp) ?_
      refine AllReadyH.cons rfl (fun K hK => ?_) AllReadyH.nil
      go_simp
      refine hK.out _ _ (HS2.out _ HONE9.out.nd rfl) (fun hHeld => ?_)
      clear hK K
      clear e7 f7
      refine wpAnyH_done (by kernel_rfl) ?_ _
      refine NoPanic.normal ?_
      have CM := hid (fun (h1 : Hid True) => commit1_any HONE9.out.nd HONE9.out.lo (by rw [more_len]; show l.si + _ < _; omega) (by rw [more_len]; exact more_term l po pc r))
      generalize w'.setCell ⟨b, 7, none⟩ (.slice po (m + 1) pc) = wZ at *
      go_wp2_with (first | (go_at_call 62; refine (CM.out (hid trivial)).mono ?_; rintro en wY ⟨rfl, hnY, hkY⟩; have HNY := hid hnY; have HKY := hid hkY; clear hnY hkY))
      go_end0
      exact add_end HO.out HONE9.out HKP9.out HNY.out HKY.out
    · go_simp
      refine hK.out _ _ (HS.out _ HNB.out) (fun hHeld => ?_)
      clear hK K
      have hbT9 := HOT.out.nd.lt
      have hbT8 : b ≠ wT.heap.size := by omega
      refine wpAnyH_ready (rs := [5]) (by kernel_rfl) (by simp) ?_
      refine AllReadyH.cons rfl (fun K hK => ?_) AllReadyH.nil
      go_simp
      refine hK.out _ _ (HS.out _ HNB.out) (fun hHeld => ?_)
      clear hK K
      clear c7d c7T hbT9 hbT8
      refine wpAnyH_ready (rs := [18]) (by kernel_rfl) (by simp) ?_
      refine AllReadyH.cons rfl (fun K hK => ?_) AllReadyH.nil
      refine step_rapp9 (.tmp 9) (.tmp 21) 30 (by rfl) B 3 40 58 Try.underlying30 _ info_entry (by simp [Value.cells]) (by decide) _ m (l.es.map rowE).flatten (by rfl) HOW.out _ [rowE (⟨l.ht, l.si + m + 1, r⟩ : En)] (by rfl) HRW.out (by have := HME.out; simp; omega) (by have := HME.out; simp [maxLen]; omega) HSW.out (by first | rfl | (simp [Region.wanted, yielded]; done)) (fun v' w' o5 g5 f5 => ?_)
      have HX9 : Hid (∃ po pc, v' = .slice po (m + 1) pc ∧ NdAt w' b 0 1 l role ld cm tk v ∧ One B (w'.setCell ⟨b, 7, none⟩ (.slice po (m + 1) pc)) b (l.more po pc r) role ld cm tk v ∧ Keep (XO b l) w (w'.setCell ⟨b, 7, none⟩ (.slice po (m + 1) pc))) := by
        have o6 := o5
        have g6 := g5
        have f6 := f5
        rw [HME.out] at o6 g6 f6 ⊢
        exact HO.out.more r HR.out hrl HRO.out hm (by omega) HTB.out _ o6 g6 f6
      clear o5 g5 f5
      obtain ⟨po, pc, rfl, hnd9, hone9, hkp9⟩ := HX9.out
      have HND9 := hid hnd9
      have HONE9 := hid hone9
      have HKP9 := hid hkp9
      obtain ⟨-, -, -, -, -, -, -, e7, -⟩ := hnd9.cells
      have f7 := hnd9.soft 7
      clear hnd9 hone9 hkp9 HX9
      refine hK.out _ _ (HS.out _ HND9.out) (fun hHeld => ?_)
      clear hK K
      simp only [Act.put, List.getElem_toArray, List.getElem_cons_succ, List.getElem_cons_zero, List.setIfInBounds_toArray, List.set_cons_succ, List.set_cons_zero]
      refine wpAnyH_take (i := 19) (v := (.pointer (some ⟨b, 0, none⟩))) rfl (by kernel_rfl) (by kernel_rfl) (by kernel_rfl) (fun _ _ _ h => (show False from h).elim) ?xyRG24 ?xhRG24 ?xrRG24
      case xhRG24 => exact hHeld
      case xyRG24 => exact Or.inl ⟨by rfl, fun W9 hW => by clear hHeld; simp only [List.getElem_toArray, List.getElem_cons_succ, List.getElem_cons_zero]; go_simp⟩
      simp only [Act.put, List.getElem_toArray, List.getElem_cons_succ, List.getElem_cons_zero, List.setIfInBounds_toArray, List.set_cons_succ, List.set_cons_zero]
      refine wpAnyH_take (i := 20) (v := (.pointer (some ⟨b, 2, none⟩))) rfl (by kernel_rfl) (by kernel_rfl) (by kernel_rfl) (fun _ _ _ h => (show False from h).elim) ?xyRG25 ?xhRG25 ?xrRG25
      case xhRG25 => exact hHeld
      case xyRG25 => exact Or.inl ⟨by rfl, fun W9 hW => by clear hHeld; simp only [List.getElem_toArray, List.getElem_cons_succ, List.getElem_cons_zero]; go_simp⟩
      simp only [Act.put, List.getElem_toArray, List.getElem_cons_succ, List.getElem_cons_zero, List.setIfInBounds_toArray, List.set_cons_succ, List.set_cons_zero]
      refine wpAnyH_take (i := 21) (v := (.pointer (some ⟨b, 7, none⟩))) rfl (by kernel_rfl) (by kernel_rfl) (by kernel_rfl) (fun _ _ _ h => (show False from h).elim) ?xyRG26 ?xhRG26 ?xrRG26
      case xhRG26 => exact hHeld
      case xyRG26 => exact Or.inl ⟨by rfl, fun W9 hW => by clear hHeld; simp only [List.getElem_toArray, List.getElem_cons_succ, List.getElem_cons_zero]; go_simp⟩
      simp only [Act.put, List.getElem_toArray, List.getElem_cons_succ, List.getElem_cons_zero, List.setIfInBounds_toArray, List.set_cons_succ, List.set_cons_zero]
      refine wpAnyH_ready (rs := [22]) (by kernel_rfl) (by simp) ?_
      refine AllReadyH.cons rfl (fun K hK => ?_) AllReadyH.nil
      go_simp
      refine hK.out _ _ (HS2.out _ HONE9.out.nd rfl) (fun hHeld => ?_)
      clear hK K
      clear e7 f7
      refine wpAnyH_done (by kernel_rfl) ?_ _
      refine NoPanic.normal ?_
      have CM := hid (fun (h1 : Hid True) => commit1_any HONE9.out.nd HONE9.out.lo (by rw [more_len]; show l.si + _ < _; omega) (by rw [more_len]; exact more_term l po pc r))
      generalize w'.setCell ⟨b, 7, none⟩ (.slice po (m + 1) pc) = wZ at *
      go_wp2_with (first | (go_at_call 62; refine (CM.out (hid trivial)).mono ?_; rintro en wY ⟨rfl, hnY, hkY⟩; have HNY := hid hnY; have HKY := hid hkY; clear hnY hkY))
      go_end0
      exact add_end HO.out HONE9.out HKP9.out HNY.out HKY.out
end
end Go.Proofs.Ytdaecndbdinddaa
