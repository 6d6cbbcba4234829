/-
  THE CODE's TAKE.
-/
import Derived.Test.YtacmidfcocjdjaaTTake
namespace Go.Proofs.Ytacmidfcocjdjaa
open Go.RowKit

theorem results_cell3 {P : Program} {fn : Func} {p u v : Tmp} {ty : TypeId} (h : fn.results = #[.cell p ty, .tmp u, .tmp v]) (tmps : Array Value) (w : World) (g : Nat) (t : TypeId) (cs : Array Value) (fr : Nat × Nat) (d : TypeDesc)
    (hp : tmps.getD p undef = .pointer (some ⟨g, 0, none⟩)) (hg : w.heap[g]? = some (.cells cs t fr))
    (hu : P.underlying ty = some d) (hd : (match d with | .struct _ | .array _ _ => true | _ => false) = true) (hi : (P.info? ty).map (·.size) = some cs.size) :
    (results fn tmps).run P w = .ok (.tuple #[.agg cs, tmps.getD u undef, tmps.getD v undef]) w := by
  have hp' : tmps[p]?.getD undef = .pointer (some ⟨g, 0, none⟩) := by simpa using hp
  simp [results, h, hp', asAddr, run_loadVar_row w g t ty cs fr d hg hu hd hi]

theorem three_frozen {w : World} {b : Nat} {x y z : Value} {t : TypeId} (h : w.heap[b]? = some (.cells #[x, y, z] t (0, 0))) :
    w.frozen? ⟨b, 0, none⟩ = false ∧ w.frozen? ⟨b, 1, none⟩ = false ∧ w.frozen? ⟨b, 2, none⟩ = false := by
  simp [World.frozen?, h]

theorem below_three {w w2 : World} {x y z : Value} (h : Below w.heap.size w w2) : Below w.heap.size w (((w2.setCell ⟨w.heap.size, 0, none⟩ x).setCell ⟨w.heap.size, 1, none⟩ y).setCell ⟨w.heap.size, 2, none⟩ z) := by
  have k1 := h.grown (grown_set w2 ⟨w.heap.size, 0, none⟩ x) h.size (fun k hk => by cases hk; exact Nat.le_refl _)
  have k2 := k1.grown (grown_set _ ⟨w.heap.size, 1, none⟩ y) k1.size (fun k hk => by cases hk; exact Nat.le_refl _)
  exact k2.grown (grown_set _ ⟨w.heap.size, 2, none⟩ z) k2.size (fun k hk => by cases hk; exact Nat.le_refl _)

theorem rdT_le : ∀ (r acc : List UInt8) (used : Nat), (rdT acc used r).2.1 ≤ used + r.length
  | [], acc, used => by simp [rdT]
  | [c], acc, used => by
    unfold rdT
    split
    · simp
    · split <;> simp
  | c :: d :: r, acc, used => by
    unfold rdT
    have h1 := rdT_le r (acc ++ [c]) (used + 2)
    have h2 := rdT_le (d :: r) (acc ++ [c]) (used + 1)
    simp only [List.length_cons] at *
    repeat' split
    all_goals (first | omega | (dsimp only; omega))

theorem three_set {w : World} {b : Nat} {x y z x' y' z' : Value} {t : TypeId} (h : w.heap[b]? = some (.cells #[x, y, z] t (0, 0))) :
    (((w.setCell ⟨b, 0, none⟩ x').setCell ⟨b, 1, none⟩ y').setCell ⟨b, 2, none⟩ z').heap[b]? = some (.cells #[x', y', z'] t (0, 0)) := by
  have e0 := heap_setCell_same w b 0 #[x, y, z] t x' h
  have e1 := heap_setCell_same _ b 1 _ t y' e0
  have e2 := heap_setCell_same _ b 2 _ t z' e1
  exact e2

/-- What take gives. -/
def takeR (l : List UInt8) : Value := .tuple #[sv (rdV l).1, .int .i64 ((rdV l).2.1 : Nat), .int .i64 (rdV l).2.2]

theorem kind_at (k : Int) (w : World) (hk : k = 0 ∨ k = 1 ∨ k = 2) : Calls Try.prog 40 #[.int .i64 k] w fun e w' => e = .returned (.int .u8 (k + 1)) ∧ w' = w :=
  (kind_any k w hk).mono fun e w' ⟨h1, h2⟩ => ⟨by rw [h1]; rcases hk with rfl | rfl | rfl <;> rfl, h2⟩

set_option maxHeartbeats 4000000 in
set_option maxRecDepth 100000 in
theorem take_any (x : Value) (l : List UInt8) (w : World) (hx : Rd w x l) (hl : l ≠ []) :
    Calls Try.prog 33 #[x] w (Ans w (takeR l)) := by
  have hl1 : 1 ≤ l.length := List.length_pos_iff.2 hl
  have K := fun k w hk => kind_at k w hk
  have BA := (Below.refl w.heap.size w).alloc (Nat.le_refl _) (.cells #[.int .i64 0, .int .i64 0, .string ⟨#[]⟩] 24)
  obtain ⟨ao2, c2, hs2, hr2, hb2⟩ := hx.cut (P := Try.prog) 27 5 Try.underlying27 (by kernel_rfl) 1 hl1
  have hs2' : ∀ W, (Instr.slice 27 x (some (.int .i64 1)) none none).run Try.prog W = .ok (.slice ao2 (l.length - 1) c2) W := hs2
  have hrA := hr2.old BA
  have CI := takeInt_any _ _ _ hrA
  have CT := takeText_any _ _ _ hrA
  obtain ⟨b, off, cp, rfl, h1, h2, hc⟩ := hx.at (by omega)
  unfold maxLen at h2
  have d0 := hc 0 (by omega)
  have hcons : l = l[0] :: l.drop 1 := by
    cases l with
    | nil => exact absurd rfl hl
    | cons c r => rfl
  have HV : Hid (rdV l = rdV (l[0] :: l.drop 1)) := congrArg rdV hcons
  have dA : (w.alloc (.cells #[.int .i64 0, .int .i64 0, .string ⟨#[]⟩] 24)).cell? ⟨b, off, none⟩ = some (.int .u8 (l[0].toNat : Int)) := by
    rw [← d0]; exact BA.cell (p := ⟨b, off, none⟩) (World.block_lt_of_cell? w _ d0)
  have hc256 := UInt8.toNat_lt l[0]
  have HZ : Hid (∀ d : UInt8, l[0] = d ↔ l[0].toNat = d.toNat) := fun d => by rw [← UInt8.toNat_inj]
  generalize l[0] = c at *
  have HRL : Hid ((l.drop 1).length + 1 < 2 ^ 63) := by show _ < _; rw [List.length_drop]; omega
  generalize l.drop 1 = r at *
  have HBA := hid BA
  clear hs2 hr2 hb2 hrA hx hc d0 hcons BA
  by_cases c1 : c.toNat = 1
  · have hcz : c = 1 := (HZ.out 1).2 c1
    subst hcz
    have dA' : (w.alloc (.cells #[.int .i64 0, .int .i64 0, .string ⟨#[]⟩] 24)).cell? ⟨b, off, none⟩ = some (.int .u8 1) := dA
    have HF : Hid (rdV l = (⟨0, 0, []⟩, 1, 0)) := HV.out
    clear dA c1 hc256 HZ CI CT
    go_enter Try.func33, Try.ntmps33
    go_wp2_with (first | (go_at_call 40; refine (K _ _ (by simp)).mono ?_; rintro e w' ⟨rfl, rfl⟩))
    (try simp only [Exit.inBlock, Exit.then])
    refine bodyPost_ret (results_cell3 rfl _ _ w.heap.size 24 _ (0, 0) _ rfl (heap_alloc_new _ _) Try.underlying24 rfl (by kernel_rfl)) rfl ?_
    unfold Ans takeR
    rw [HF.out]
    exact ⟨rfl, HBA.out⟩
  · by_cases c2' : c.toNat = 2
    · have hcz : c = 2 := (HZ.out 2).2 c2'
      subst hcz
      have dA' : (w.alloc (.cells #[.int .i64 0, .int .i64 0, .string ⟨#[]⟩] 24)).cell? ⟨b, off, none⟩ = some (.int .u8 2) := dA
      clear dA c1 c2' hc256 HZ CT
      by_cases h8 : r.length < 8
      · have HF : Hid (rdV l = (⟨1, 0, []⟩, 9, 8)) := by show _ = _; rw [HV.out, rdV_cons, if_neg (by decide), if_pos rfl, if_pos h8]
        unfold intR at CI
        rw [if_pos h8] at CI
        go_enter Try.func33, Try.ntmps33
        go_wp2_with (first | (go_at_call 40; refine (K _ _ (by simp)).mono ?_; rintro e w' ⟨rfl, rfl⟩) | (go_at_call 43; refine CI.mono ?_; rintro e w' ⟨rfl, rfl⟩))
        (try simp only [Exit.inBlock, Exit.then])
        refine bodyPost_ret (results_cell3 rfl _ _ w.heap.size 24 _ (0, 0) _ rfl (heap_alloc_new _ _) Try.underlying24 rfl (by kernel_rfl)) rfl ?_
        unfold Ans takeR
        rw [HF.out]
        exact ⟨rfl, ((Below.refl w.heap.size w).alloc (Nat.le_refl _) _)⟩
      · have HF : Hid (rdV l = (⟨1, (rdB 0 (r.take 8) : Int) - 9223372036854775808, []⟩, 9, 0)) := by show _ = _; rw [HV.out, rdV_cons, if_neg (by decide), if_pos rfl, if_neg h8]
        unfold intR at CI
        rw [if_neg h8] at CI
        go_enter Try.func33, Try.ntmps33
        go_wp2_with (first | (go_at_call 40; refine (K _ _ (by simp)).mono ?_; rintro e w' ⟨rfl, rfl⟩) | (go_at_call 43; refine CI.mono ?_; rintro e w' ⟨rfl, rfl⟩))
        (try simp only [Exit.inBlock, Exit.then])
        refine bodyPost_ret (results_cell3 rfl _ _ w.heap.size 24 _ (0, 0) _ rfl (heap_alloc_new _ _) Try.underlying24 rfl (by kernel_rfl)) rfl ?_
        unfold Ans takeR
        rw [HF.out]
        exact ⟨rfl, ((Below.refl w.heap.size w).alloc (Nat.le_refl _) _)⟩
    · by_cases c3' : c.toNat = 3
      · have hcz : c = 3 := (HZ.out 3).2 c3'
        subst hcz
        have dA' : (w.alloc (.cells #[.int .i64 0, .int .i64 0, .string ⟨#[]⟩] 24)).cell? ⟨b, off, none⟩ = some (.int .u8 3) := dA
        clear dA c1 c2' c3' hc256 HZ CI
        have HF : Hid (rdV l = (⟨2, 0, (rdT [] 0 r).1⟩, 1 + (rdT [] 0 r).2.1, (rdT [] 0 r).2.2)) := by show _ = _; rw [HV.out, rdV_cons, if_neg (by decide), if_neg (by decide), if_pos rfl]
        have hle := rdT_le r [] 0
        unfold textR at CT
        generalize rdT [] 0 r = t at *
        obtain ⟨t1, t2, t3⟩ := t
        simp only at HF CT hle
        have hrl : r.length + 1 < 2 ^ 63 := HRL.out
        have HA0 : Hid ((w.alloc (.cells #[.int .i64 0, .int .i64 0, .string ⟨#[]⟩] 24)).heap[w.heap.size]? = some (.cells #[.int .i64 0, .int .i64 0, .string ⟨#[]⟩] 24 (0, 0))) := heap_alloc_new _ _
        have HSZ : Hid ((w.alloc (.cells #[.int .i64 0, .int .i64 0, .string ⟨#[]⟩] 24)).heap.size = w.heap.size + 1) := by simp [Hid]
        go_enter Try.func33, Try.ntmps33
        go_wp2_with (first | (go_at_call 40; refine (K _ _ (by simp)).mono ?_; rintro e w' ⟨rfl, rfl⟩) | (go_at_call 44; refine CT.mono ?_))
        rintro e w2 ⟨rfl, hb2⟩
        have hk : w2.heap[w.heap.size]? = some (.cells #[.int .i64 0, .int .i64 0, .string ⟨#[]⟩] 24 (0, 0)) := (hb2.block w.heap.size (by rw [HSZ.out]; exact Nat.lt_succ_self _)).trans HA0.out
        have HK := hid hk
        have HB2 := hid (alloc_then (Below.refl w.heap.size w) hb2)
        obtain ⟨e1, e2, e3⟩ := three_cells hk
        obtain ⟨f1, f2, f3⟩ := three_frozen hk
        have HS := hid (three_set (x' := .int .i64 2) (y' := .int .i64 0) (z' := .string ⟨t1.toArray⟩) hk)
        clear hk hb2
        go_wp2_with fail
        have hwr : (1 + (t2 : Int)) = ((1 + t2 : Nat) : Int) := by omega
        rw [hwr]
        (try simp only [Exit.inBlock, Exit.then])
        refine bodyPost_ret (results_cell3 rfl _ _ w.heap.size 24 _ (0, 0) _ rfl HS.out Try.underlying24 rfl (by kernel_rfl)) rfl ?_
        unfold Ans takeR
        rw [HF.out]
        exact ⟨rfl, below_three HB2.out⟩
      · have HF : Hid (rdV l = (⟨0, 0, []⟩, 0, 9)) := by show _ = _; rw [HV.out, rdV_cons, if_neg (fun e => c1 ((HZ.out 1).1 e)), if_neg (fun e => c2' ((HZ.out 2).1 e)), if_neg (fun e => c3' ((HZ.out 3).1 e))]
        have q1 : ¬ (c.toNat : Int) = 1 := by omega
        have q2 : ¬ (c.toNat : Int) = 2 := by omega
        have q3 : ¬ (c.toNat : Int) = 3 := by omega
        clear HZ CI CT
        go_enter Try.func33, Try.ntmps33
        go_wp2_with (first | (go_at_call 40; refine (K _ _ (by simp)).mono ?_; rintro e w' ⟨rfl, rfl⟩))
        (try simp only [Exit.inBlock, Exit.then])
        refine bodyPost_ret (results_cell3 rfl _ _ w.heap.size 24 _ (0, 0) _ rfl (heap_alloc_new _ _) Try.underlying24 rfl (by kernel_rfl)) rfl ?_
        unfold Ans takeR
        rw [HF.out]
        exact ⟨rfl, ((Below.refl w.heap.size w).alloc (Nat.le_refl _) _)⟩
end Go.Proofs.Ytacmidfcocjdjaa
