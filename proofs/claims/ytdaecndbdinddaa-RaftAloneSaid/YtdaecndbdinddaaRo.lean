/-
  RAFT: a group of one: Propose.
-/
import Derived.Test.YtdaecndbdinddaaRi
import Derived.Test.YtdaecndbdinddaaRn
set_option linter.unusedVariables false
set_option linter.unusedSimpArgs false
set_option maxRecDepth 100000
namespace Go.Proofs.Ytdaecndbdinddaa
open Go.RowKit Go.Deep

section
variable {B : Nat} {w w' : World} {b : Nat} {l : Lo} {role ld : Int} {cm : Nat} {tk : Int} {v : Bool}
/-- What a Propose comes to. -/
def Prop1 (B b : Nat) (l : Lo) (cm : Nat) (tk : Int) (v : Bool) (d : List UInt8) (w : World) (en : Ending) (w' : World) : Prop :=
  en = .returned (.tuple #[.int .u64 ((l.si + l.es.length + 1 : Nat) : Int), .int .i64 0]) ∧ ∃ po pc r, r.b = d ∧ One B w' b (l.more po pc r) 2 1 (max cm (l.si + l.es.length + 1)) tk v ∧ Keep (XO b l) w w'

theorem propose_long (h : One B w b l 2 1 cm tk v) (a : Option Addr) (n c : Nat) (hn : n > 32668) : Calls Try.prog 15 #[.pointer (some ⟨b, 0, none⟩), .slice a n c] w (fun e w' => e = .returned (.tuple #[.int .u64 0, .int .i64 10]) ∧ Below w.heap.size w w') := by
  have hb : Below w.heap.size w (w.alloc (.cells #[.pointer (some ⟨b, 0, none⟩)] 49)) := (Below.refl _ _).alloc (Nat.le_refl _) _
  have h0 := heap_alloc_new w (.cells #[.pointer (some ⟨b, 0, none⟩)] 49)
  have hlb := fun W a n c => run_len_slice (P := Try.prog) W 28 3 a n c Try.underlying28
  have hng : (n : Int) > 32668 := by omega
  have HO := hid h
  clear h
  go_enter Try.func15, Try.ntmps15
  go_upto_region 1 with fail
  generalize w.alloc (.cells #[.pointer (some ⟨b, 0, none⟩)] 49) = w1 at *
  have HB := hid hb
  have p1 : w1.cell? ⟨w.heap.size, 0, none⟩ = some (.pointer (some ⟨b, 0, none⟩)) := by simp [World.cell?, h0]
  have CN := hid (rnone_any (HO.out.nd.old hb) (by omega))
  obtain ⟨-, -, -, -, -, -, -, -, c8, -⟩ := (HO.out.nd.old hb).cells
  clear hb h0
  go_wp2_with (first | (go_at_call 36; refine CN.out.mono ?_; rintro en w2 ⟨rfl, hw2⟩; subst hw2))
  go_ret2
  exact ⟨rfl, HB.out⟩

set_option maxHeartbeats 8000000 in
theorem propose1_any (h : One B w b l 2 1 cm tk v) (a : Option Addr) (n c : Nat) (d : List UInt8) (hn : n = d.length) (hd : Rd w (.slice a n c) d) (hdl : d.length ≤ 32668) (hm : l.si + l.es.length + 1 < 18446744073709551616) (hlen : l.es.length + 1 ≤ 1000000000000) (hB : B ≤ w.heap.size) :
    Calls Try.prog 15 #[.pointer (some ⟨b, 0, none⟩), .slice a n c] w (Prop1 B b l cm tk v d w) := by
  have hb : Below w.heap.size w (w.alloc (.cells #[.pointer (some ⟨b, 0, none⟩)] 49)) := (Below.refl _ _).alloc (Nat.le_refl _) _
  have h0 := heap_alloc_new w (.cells #[.pointer (some ⟨b, 0, none⟩)] 49)
  have hs1 : (w.alloc (.cells #[.pointer (some ⟨b, 0, none⟩)] 49)).heap.size = w.heap.size + 1 := by simp
  have hlb := fun W a n c => run_len_slice (P := Try.prog) W 28 3 a n c Try.underlying28
  have hng : ¬ ((n : Int) > 32668) := by omega
  have hng2 : decide (32668 < (n : Int)) = false := by simp; omega
  have HO := hid h
  have HD := hid hd
  obtain ⟨m, hme⟩ : ∃ m, m = l.si + l.es.length := ⟨_, rfl⟩
  have HME := hid hme
  have CL : Hid (∀ W, Below w.heap.size w W → Calls Try.prog 37 #[.pointer (some ⟨b, 0, none⟩)] W (Draws W (.int .u64 (m : Int)))) := hid fun W hW => by rw [hme]; exact rlast_any (h.nd.old hW) (by omega)
  have HBL := hid h.nd.lt
  have HRB : Hid (∀ k, (Value.slice l.eo l.es.length l.ec).ownBlock = some k → k < w.heap.size) := hid fun k hk => (h.own.own.lt k hk).2
  clear h hd hme hn
  go_enter Try.func15, Try.ntmps15
  go_upto_region 1 with fail
  generalize w.alloc (.cells #[.pointer (some ⟨b, 0, none⟩)] 49) = w1 at *
  have HB := hid hb
  have H0 := hid h0
  have HS1 := hid hs1
  have p1 : w1.cell? ⟨w.heap.size, 0, none⟩ = some (.pointer (some ⟨b, 0, none⟩)) := by simp [World.cell?, h0]
  have CN := hid (rnone_any (HO.out.nd.old hb) (by omega))
  have CL1 := hid (CL.out _ hb)
  obtain ⟨-, -, -, -, -, -, -, -, c8, -⟩ := (HO.out.nd.old hb).cells
  clear hb h0 hs1
  go_upto_region 8 with (first
    | (go_at_call 36; refine CN.out.mono ?_; rintro en w2 ⟨rfl, hw2⟩; subst hw2)
    | (go_at_call 37; refine CL1.out.mono ?_; rintro en w3 ⟨rfl, hex⟩; have hB3 : Below w2.heap.size w2 w3 := (by obtain ⟨q, rfl⟩ := hex; exact ⟨rfl, rfl, rfl, Nat.le_refl _, fun _ _ => rfl⟩); have HB3 := hid hB3; have p3 := (World.cell?_of_block (w := w2) (a := ⟨w.heap.size, 0, none⟩) (hB3.block _ (lt_of_block H0.out))).trans p1; clear hex hB3 p1))
  have hb4 : Below w3.heap.size w3 (w3.alloc (.cells #[.int .u64 (m : Int)] 29)) := (Below.refl _ _).alloc (Nat.le_refl _) _
  have p4 := (World.cell?_of_block (w := w3) (a := ⟨w.heap.size, 0, none⟩) (hb4.block _ (World.block_lt_of_cell? w3 _ p3))).trans p3
  generalize w3.alloc (.cells #[.int .u64 (m : Int)] 29) = w4 at *
  have HB4 := hid (HB.out.trans ((HB3.out.trans (hb4.mono HB3.out.size)).mono HB.out.size))
  have HP4 := hid p4
  have HQ4 := hid (World.block_lt_of_cell? w4 _ p4)
  clear hb4 p3 c8
  obtain ⟨S9, hS9⟩ : ∃ S9 : World → Prop, S9 = fun V => V.cell? ⟨w.heap.size, 0, none⟩ = some (.pointer (some ⟨b, 0, none⟩)) := ⟨_, rfl⟩
  have HZ : Hid (∀ V, S9 V → V.cell? ⟨w.heap.size, 0, none⟩ = some (.pointer (some ⟨b, 0, none⟩))) := hid fun V h => by rw [hS9] at h; exact h
  have HS : Hid (∀ V, V.cell? ⟨w.heap.size, 0, none⟩ = some (.pointer (some ⟨b, 0, none⟩)) → S9 V) := hid fun V h => by rw [hS9]; exact h
  have HWd : Hid (Below w4.heap.size w4 w4.drew) := hid ⟨rfl, rfl, rfl, Nat.le_refl _, fun _ _ => rfl⟩
  have HSd : Hid (S9 w4.drew) := hid (HS.out _ HP4.out)
  have HBd := hid (HB4.out.trans (HWd.out.mono HB4.out.size))
  have CCd : Hid (Calls Try.prog 39 #[.slice a n c] w4.drew (Gives 5 w4.drew d)) := hid (clone_any _ _ _ (HD.out.old HBd.out) (by omega))
  clear hS9 p4
  refine wp_region_noPanic ?_
  refine wp_region_held_drew (S := S9) (by kernel_rfl) (HSd.out) (fun hHeld => ?_)
  generalize w4.drew = Wd at *
  refine wpAnyH_take (i := 0) (v := (.pointer (some ⟨b, 0, none⟩))) rfl (by kernel_rfl) (by kernel_rfl) (by kernel_rfl) (fun _ _ _ h => (show False from h).elim) ?xyRO1 ?xhRO1 ?xrRO1
  case xhRO1 => exact hHeld
  case xyRO1 => exact Or.inl ⟨by rfl, fun W9 hW => by have y0 := HZ.out _ hW; clear hHeld; simp only [List.getElem_toArray, List.getElem_cons_succ, List.getElem_cons_zero]; go_simp⟩
  simp only [Act.put, List.getElem_toArray, List.getElem_cons_succ, List.getElem_cons_zero, List.setIfInBounds_toArray, List.set_cons_succ, List.set_cons_zero]
  refine wpAnyH_take (i := 1) (v := (.slice a n c)) rfl (by kernel_rfl) (by kernel_rfl) (by kernel_rfl) (fun _ _ _ h => (show False from h).elim) ?xyRO2 ?xhRO2 ?xrRO2
  case xhRO2 => exact hHeld
  case xyRO2 => exact Or.inl ⟨by rfl, fun W9 hW => by clear hHeld; simp only [List.getElem_toArray, List.getElem_cons_succ, List.getElem_cons_zero]; go_simp⟩
  simp only [Act.put, List.getElem_toArray, List.getElem_cons_succ, List.getElem_cons_zero, List.setIfInBounds_toArray, List.set_cons_succ, List.set_cons_zero]
  refine wpAnyH_ready (rs := [2]) (by kernel_rfl) (by simp) ?_
  refine AllReadyH.cons rfl (fun K hK => ?_) AllReadyH.nil
  go_simp
  go_wp2_with (first | (go_at_call 39; refine CCd.out.mono ?_; rintro en wT ⟨vT, rfl, hoT, hbT⟩; have HNT := hid hoT; obtain ⟨ta, tc, rfl, hrT⟩ := gives_rd hoT; have HRT := hid hrT; have HTO : Hid (∀ a, ta = some a → Wd.heap.size ≤ a.block) := hid (fun a ha => by subst ha; exact (HNT.out.lt a.block rfl).1); have HBT := hid hbT; have HBw := hid (HBd.out.trans (hbT.mono HBd.out.size)); clear hbT hrT hoT))
  refine hK.out _ _ (HS.out _ ((World.cell?_of_block (w := Wd) (a := ⟨w.heap.size, 0, none⟩) (HBT.out.block _ (World.block_lt_of_cell? Wd _ (HZ.out _ HSd.out)))).trans (HZ.out _ HSd.out))) (fun hHeld => ?_)
  clear hK K
  have HOT := hid (HO.out.old HBw.out)
  have hdl9 : d.length = d.length := rfl
  have CA0 := add1_any HOT.out ⟨ta, tc, d⟩ HRT.out (by show d.length ≤ _; omega) (fun _ x hx hX => by
    have h1 := HTO.out x hx
    have h2 := HBd.out.size
    rcases hX with hX | hX
    · have := HBL.out; omega
    · have := HRB.out _ hX; omega) hm hlen (Nat.le_trans hB HBw.out.size)
  have CAd := hid CA0
  clear CA0 hdl9
  refine wpAnyH_ready (rs := [3]) (by kernel_rfl) (by simp) ?_
  refine AllReadyH.cons rfl (fun K hK => ?_) AllReadyH.nil
  go_simp
  go_wp2_with (first | (go_at_call 38; refine CAd.out.mono ?_; rintro en wA ⟨rfl, po, pc, hO9, hK9⟩; have HO9 := hid hO9; have HK9 := hid hK9; clear hO9 hK9))
  refine hK.out _ _ (HS.out _ ((World.cell?_of_block (w := wT) (a := ⟨w.heap.size, 0, none⟩) (HK9.out.block _ (by have := HBT.out.size; have := World.block_lt_of_cell? Wd _ (HZ.out _ HSd.out); simp only at this ⊢; omega) (fun e => e.elim (fun e => by have := HBL.out; simp only at e; omega) (fun e => absurd (HRB.out _ e) (Nat.lt_irrefl _))))).trans ((World.cell?_of_block (w := Wd) (a := ⟨w.heap.size, 0, none⟩) (HBT.out.block _ (World.block_lt_of_cell? Wd _ (HZ.out _ HSd.out)))).trans (HZ.out _ HSd.out)))) (fun hHeld => ?_)
  clear hK K
  refine wpAnyH_done (by kernel_rfl) ?_ _
  refine NoPanic.normal ?_
  have q9 := HZ.out _ hHeld
  have CO9 := hid (fun g => others1_any HO9.out.nd g)
  have CL9a := rlast_any HO9.out.nd (by rw [more_len]; show l.si + _ < _; omega)
  rw [more_len] at CL9a
  have e9 : (l.more po pc ⟨ta, tc, d⟩).si + (l.es.length + 1) = l.si + l.es.length + 1 := by show l.si + _ = _; omega
  rw [e9] at CL9a
  have CL9 := hid CL9a
  clear CL9a e9
  go_wp2_with (first
    | (go_at_call 40; refine (CO9.out _).mono ?_; rintro en w5 ⟨rfl, hw5⟩; subst hw5)
    | (go_at_call 37; refine CL9.out.mono ?_; rintro en w6 ⟨rfl, hex⟩; have hB6 : Below w5.heap.size w5 w6 := (by obtain ⟨q, rfl⟩ := hex; exact ⟨rfl, rfl, rfl, Nat.le_refl _, fun _ _ => rfl⟩); have HB6 := hid hB6; clear hex hB6))
  go_ret2
  refine ⟨rfl, po, pc, ⟨ta, tc, d⟩, rfl, HO9.out.old HB6.out, ?_⟩
  exact ((Keep.of_below HBw.out).trans HK9.out).trans (Keep.of_below HB6.out)
end
end Go.Proofs.Ytdaecndbdinddaa
