import Derived.Deep.RegionHeld3
import Derived.WalkKit
import Derived.OpenShut
import Derived.Test.YtiblambiebojmaaRows
import Derived.WalkSpells
import Derived.WalkLawsBesides
import Derived.Laws.AppendOwnNone
import Derived.ProofKit
import Derived.ShutString
import Derived.ChangeOld
import Derived.Below
import Derived.SizedLaws
import Derived.Deep.Slices
import Derived.Deep.AppendLies
import Derived.Deep.Strs
import Derived.Lib.ConvBytes
import Derived.Laws.AppendOwn
import Derived.Deep.CutRange
import Derived.Deep.MidRow
import Derived.Great.Walk
import Derived.Test.YtiblambiebojmaaWK1
import Derived.Test.YtiblambiebojmaaWK2
import Derived.Test.YtiblambiebojmaaWK3
import Derived.Test.YtiblambiebojmaaWK4
set_option linter.unusedVariables false
set_option linter.unusedSimpArgs false
set_option linter.unusedVariables false
set_option linter.unusedSimpArgs false
set_option maxRecDepth 100000
namespace Go.Proofs.Ytiblambiebojmaa
open Go.RowKit Go.Deep

theorem enc_inj {W W' : World} {s : Sh} {c1 c2 : List Value} {b1 b2 r1 r2 : List UInt8} (hg : s.good = true) (h1 : Enc W s c1 b1) (h2 : Enc W' s c2 b2) (l1 : b1.length ≤ 5000) (l2 : b2.length ≤ 5000) (h : b1 ++ r1 = b2 ++ r2) : b1 = b2 ∧ r1 = r2 := by
  have e1 := rd_back s r1 hg h1 l1
  have e2 := rd_back s r2 hg h2 l2
  rw [h, e2] at e1
  simp only [Prod.mk.injEq, and_true] at e1
  exact ⟨e1.1.symm, e1.2.symm⟩

theorem numL_inj {a b : Nat} {r1 r2 : List UInt8} (ha : a < 2 ^ 64) (hb : b < 2 ^ 64) (h : numL a ++ r1 = numL b ++ r2) : a = b ∧ r1 = r2 := by
  have e1 := rdN_back ha r1
  have e2 := rdN_back hb r2
  rw [h, e2] at e1
  simp only [Prod.mk.injEq] at e1
  obtain ⟨rfl, -⟩ := e1
  exact ⟨rfl, List.append_cancel_left h⟩

theorem eq_int {W W' : World} {v v' : Value} {b : List UInt8} (h : Enc W .int [v] b) (h' : Enc W' .int [v'] b) : ∃ z : Int, v = .int .i64 z ∧ v' = .int .i64 z := by
  obtain ⟨z, hz, hv, rfl⟩ := h
  obtain ⟨y, hy, hv', e⟩ := h'
  cases hv; cases hv'
  have := (numL_inj (r1 := []) (r2 := []) (by have := zig_lt hz; omega) (by have := zig_lt hy; omega) (by simpa using e)).1
  have q := congrArg unzig this
  rw [unzig_zig hz, unzig_zig hy] at q
  exact ⟨z, rfl, by rw [q]⟩
theorem eq_bool {W W' : World} {v v' : Value} {b : List UInt8} (h : Enc W .bool [v] b) (h' : Enc W' .bool [v'] b) : ∃ q : Bool, v = .bool q ∧ v' = .bool q := by
  obtain ⟨q, hv, rfl⟩ := h
  obtain ⟨p, hv', e⟩ := h'
  cases hv; cases hv'
  have := (numL_inj (a := if q then 1 else 0) (b := if p then 1 else 0) (r1 := []) (r2 := []) (by split <;> decide) (by split <;> decide) (by simpa using e)).1
  refine ⟨q, rfl, ?_⟩
  cases q <;> cases p <;> simp_all
theorem eq_name {W W' : World} {v v' : Value} {b : List UInt8} (h : Enc W .name [v] b) (h' : Enc W' .name [v'] b) : ∃ s : ByteArray, v = .string s ∧ v' = .string s := by
  obtain ⟨l, hv, hl, rfl⟩ := h
  obtain ⟨m, hv', hm, e⟩ := h'
  cases hv; cases hv'
  have := (numL_inj (by omega) (by omega) (show numL l.length ++ l = numL m.length ++ m from e)).2
  exact ⟨_, rfl, by rw [this]⟩

/-- Two lists with the same bytes: as many, and each with the same bytes. -/
theorem list_pair {W : World} {s : Sh} {a1 a2 : Option Addr} {n1 n2 c1 c2 : Nat} {M1 M2 : List (List Value × List UInt8)} (hg : s.good = true) (h1 : Lst W s a1 n1 c1 M1) (h2 : Lst W s a2 n2 c2 M2) (hb : numL n1 ++ takeB M1 n1 = numL n2 ++ takeB M2 n2) (hl : (numL n1 ++ takeB M1 n1).length ≤ 5000) :
    n1 = n2 ∧ M1.map (·.2) = M2.map (·.2) := by
  obtain ⟨-, e1, l1, k1⟩ := h1
  obtain ⟨-, e2, l2, k2⟩ := h2
  obtain ⟨hn, ht⟩ := numL_inj (by omega) (by omega) hb
  refine ⟨hn, ?_⟩
  have hle : (takeB M1 n1).length ≤ 5000 := by rw [List.length_append] at hl; omega
  unfold takeB at ht hle
  rw [← l1, List.take_length] at ht hle
  rw [← l2, List.take_length] at ht
  have hlen : M1.length = M2.length := by omega
  clear hb hl hn l1 l2 k1 k2
  have key : ∀ (L1 L2 : List (List Value × List UInt8)), (∀ m ∈ L1, Enc W s m.1 m.2) → (∀ m ∈ L2, Enc W s m.1 m.2) → L1.length = L2.length → (L1.map (·.2)).flatten = (L2.map (·.2)).flatten → (L1.map (·.2)).flatten.length ≤ 5000 → L1.map (·.2) = L2.map (·.2) := fun L1 => by
    induction L1 with
    | nil => intro L2 _ _ h _ _; cases L2 with | nil => rfl | cons x r => cases h
    | cons m L1 ih =>
      intro L2 g1 g2 h hf hq
      cases L2 with
      | nil => cases h
      | cons x L2 =>
        simp only [List.map_cons, List.flatten_cons] at hf hq ⊢
        have hq2 : (x.2 ++ (L2.map (·.2)).flatten).length ≤ 5000 := by rw [← hf]; exact hq
        rw [List.length_append] at hq hq2
        obtain ⟨p1, p2⟩ := enc_inj hg (g1 m (by simp)) (g2 x (by simp)) (by omega) (by omega) hf
        rw [p1, ih L2 (fun y hy => g1 y (by simp [hy])) (fun y hy => g2 y (by simp [hy])) (by simpa using h) p2 (by omega)]
  exact key M1 M2 e1 e2 hlen ht hle

theorem takeB_le {M : List (List Value × List UInt8)} {k : Nat} {m : List Value × List UInt8} (h : M[k]? = some m) : m.2.length ≤ (takeB M M.length).length := by
  unfold takeB
  rw [List.take_length]
  obtain ⟨hk, rfl⟩ := List.getElem?_eq_some_iff.1 h
  clear h
  induction M generalizing k with
  | nil => simp at hk
  | cons x M ih =>
    cases k with
    | zero => simp
    | succ k => have := ih (k := k) (by simpa using hk); simp only [List.getElem_cons_succ, List.map_cons, List.flatten_cons, List.length_append]; omega

/-- The k-th things of two lists with the same bytes. -/
theorem pair_get {W : World} {s : Sh} {a1 a2 : Option Addr} {n c1 c2 k : Nat} {M1 M2 : List (List Value × List UInt8)} (h1 : Lst W s a1 n c1 M1) (h2 : Lst W s a2 n c2 M2) (hm : M1.map (·.2) = M2.map (·.2)) (hs : 0 < s.wid) (hk : k < n) (hl : (takeB M1 n).length ≤ 5000) :
    ∃ (x y : List Value) (b : List UInt8) (bk1 o1 bk2 o2 : Nat), Enc W s x b ∧ Enc W s y b ∧ b.length ≤ 5000 ∧ a1 = some ⟨bk1, o1, none⟩ ∧ a2 = some ⟨bk2, o2, none⟩ ∧ (∀ V, Below W.heap.size W V → ∀ (j : Nat) u, x[j]? = some u → V.cell? ⟨bk1, o1 + k * s.wid + j, none⟩ = some u) ∧ (∀ V, Below W.heap.size W V → ∀ (j : Nat) u, y[j]? = some u → V.cell? ⟨bk2, o2 + k * s.wid + j, none⟩ = some u) := by
  obtain ⟨p1, e1, l1, k1⟩ := h1
  obtain ⟨p2, e2, l2, k2⟩ := h2
  have g1 : M1[k]? = some (M1[k]'(by omega)) := List.getElem?_eq_getElem (by omega)
  have g2 : M2[k]? = some (M2[k]'(by omega)) := List.getElem?_eq_getElem (by omega)
  obtain ⟨bk1, o1, q1, r1⟩ := p1.get hs (k := k) (r := (M1[k]'(by omega)).1) (by rw [List.getElem?_map, g1]; rfl)
  obtain ⟨bk2, o2, q2, r2⟩ := p2.get hs (k := k) (r := (M2[k]'(by omega)).1) (by rw [List.getElem?_map, g2]; rfl)
  have hb : (M1[k]'(by omega)).2 = (M2[k]'(by omega)).2 := by
    have := congrArg (fun l => l[k]?) hm
    simp only [List.getElem?_map, g1, g2, Option.map_some, Option.some.injEq] at this
    exact this
  have hx := e1 _ (List.mem_of_getElem? g1)
  have hy := e2 _ (List.mem_of_getElem? g2)
  have h9 := takeB_le g1
  have e9 : takeB M1 M1.length = takeB M1 n := by rw [l1]
  rw [e9] at h9
  refine ⟨_, _, _, bk1, o1, bk2, o2, hx, by rw [hb]; exact hy, by omega, q1, q2, fun V hV j u hu => ?_, fun V hV j u hu => ?_⟩
  · exact (hV.cell (p := ⟨bk1, o1 + k * s.wid + j, none⟩) (World.block_lt_of_cell? _ _ (r1 j u hu))).trans (r1 j u hu)
  · exact (hV.cell (p := ⟨bk2, o2 + k * s.wid + j, none⟩) (World.block_lt_of_cell? _ _ (r2 j u hu))).trans (r2 j u hu)
set_option maxHeartbeats 1000000 in
theorem plain1_int (z0 : Int) (w : World) : Calls Try.prog 114 #[.int .i64 z0, .int .i64 z0] w (fun e w' => e = .returned (.bool true) ∧ Below w.heap.size w w') := by
  go_enter Try.func114, Try.ntmps114
  go_wp2_with fail
  go_ret
  exact ⟨rfl, Below.refl _ _⟩

set_option maxHeartbeats 8000000 in
theorem same_int {w : World} {v1 v2 : Value} {b : List UInt8} (h1 : Enc w (.list .int) [v1] b) (h2 : Enc w (.list .int) [v2] b) (hl : b.length ≤ 5000) :
    Calls Try.prog 113 #[v1, v2, (.func (.func 114) #[] #[])] w (fun e w' => e = .returned (.bool true) ∧ Below w.heap.size w w') := by
  obtain ⟨a1, n, c1, M1, rfl, hL1, rfl⟩ := list_open h1
  obtain ⟨a2, n2, c2, M2, rfl, hL2, hbb⟩ := list_open h2
  obtain ⟨hnn, hM⟩ := list_pair (by decide) hL1 hL2 hbb hl
  subst hnn
  have hc1 := hL1.cap.1
  have hc2 := hL2.cap.1
  have hn6 := hL1.cap.2.1
  have htl : (takeB M1 n).length ≤ 5000 := by rw [List.length_append] at hl; omega
  have HL1 := hid hL1
  have HL2 := hid hL2
  have HM := hid (And.intro hM htl)
  clear h1 h2 hL1 hL2 hM hbb hl htl
  go_enter Try.func113, Try.ntmps113
  go_wp2_with fail
  go_loopw [7] (fun i wr => ∃ k, k ≤ n ∧ i = .int .i64 (k : Int) ∧ Below w.heap.size w wr) (fun i _ => n - (intOf i).toNat)
  case atStart => exact ⟨0, by omega, rfl, Below.refl _ _⟩
  case round =>
    obtain ⟨k, hk, rfl, hb⟩ := hrel
    have HB := hid hb
    clear hb
    by_cases hlt : k < n
    · have hki : (k : Int) < (n : Int) := by omega
      obtain ⟨x, y, b, bk1, o1, bk2, o2, hx, hy, hbl, rfl, rfl, hcx, hcy⟩ := pair_get HL1.out HL2.out HM.out.1 (by decide) hlt HM.out.2
      obtain ⟨v0, rfl⟩ := one_of hx rfl
      obtain ⟨u0, rfl⟩ := one_of hy rfl
      have e0 := hx
      have f0 := hy
      obtain ⟨z0, rfl, rfl⟩ := eq_int e0 f0
      have CF : Hid (∀ V, Below w.heap.size w V → Calls Try.prog 114 #[.int .i64 z0, .int .i64 z0] V (fun e w' => e = .returned (.bool true) ∧ Below V.heap.size V w')) := hid fun V _ => plain1_int z0 V
      have hX : ∀ V, Below w.heap.size w V → ∀ (j : Nat) u, ([(.int .i64 z0)] : List Value)[j]? = some u → V.cell? ⟨bk1, o1 + k * 1 + j, none⟩ = some u := hcx
      have hY : ∀ V, Below w.heap.size w V → ∀ (j : Nat) u, ([(.int .i64 z0)] : List Value)[j]? = some u → V.cell? ⟨bk2, o2 + k * 1 + j, none⟩ = some u := hcy
      have HX := hid hX
      have HY := hid hY
      clear hX hY hcx hcy
      go_upto_region 6 with fail
      have HWd : Hid (Below w.heap.size w wr.drew) := hid (HB.out.trans ((show Below wr.heap.size wr wr.drew from ⟨rfl, rfl, rfl, Nat.le_refl _, fun _ _ => rfl⟩).mono HB.out.size))
      obtain ⟨S9, hS9⟩ : ∃ S9 : World → Prop, S9 = fun V => Below w.heap.size w V := ⟨_, rfl⟩
      have HS : Hid (∀ V, Below w.heap.size w V → S9 V) := hid fun V h => by rw [hS9]; exact h
      have HSI : Hid (∀ V, S9 V → Below w.heap.size w V) := hid fun V h => by rw [hS9] at h; exact h
      clear hS9
      refine wp_region_noPanic ?_
      refine wp_region_held_drew (S := S9) (by kernel_rfl) (HS.out _ HWd.out) (fun hHeld => ?_)
      generalize wr.drew = Wd at *
      refine wpAnyH_take (i := 0) (v := (.func (.func 114) #[] #[])) rfl (by kernel_rfl) (by kernel_rfl) (by kernel_rfl) (fun _ _ _ h => (show False from h).elim) ?xySMint1 ?xhSMint1 ?xrSMint1
      case xhSMint1 => exact hHeld
      case xySMint1 => exact Or.inl ⟨by rfl, fun W9 hW => by clear hHeld; simp only [List.getElem_toArray, List.getElem_cons_succ, List.getElem_cons_zero]; go_simp⟩
      simp only [Act.put, List.getElem_toArray, List.getElem_cons_succ, List.getElem_cons_zero, List.setIfInBounds_toArray, List.set_cons_succ, List.set_cons_zero]
      refine wpAnyH_take (i := 1) (v := (.slice (some ⟨bk1, o1, none⟩) n c1)) rfl (by kernel_rfl) (by kernel_rfl) (by kernel_rfl) (fun _ _ _ h => (show False from h).elim) ?xySMint2 ?xhSMint2 ?xrSMint2
      case xhSMint2 => exact hHeld
      case xySMint2 => exact Or.inl ⟨by rfl, fun W9 hW => by clear hHeld; simp only [List.getElem_toArray, List.getElem_cons_succ, List.getElem_cons_zero]; go_simp⟩
      simp only [Act.put, List.getElem_toArray, List.getElem_cons_succ, List.getElem_cons_zero, List.setIfInBounds_toArray, List.set_cons_succ, List.set_cons_zero]
      refine wpAnyH_take (i := 2) (v := (.int .i64 (k : Int))) rfl (by kernel_rfl) (by kernel_rfl) (by kernel_rfl) (fun _ _ _ h => (show False from h).elim) ?xySMint3 ?xhSMint3 ?xrSMint3
      case xhSMint3 => exact hHeld
      case xySMint3 => exact Or.inl ⟨by rfl, fun W9 hW => by clear hHeld; simp only [List.getElem_toArray, List.getElem_cons_succ, List.getElem_cons_zero]; go_simp⟩
      simp only [Act.put, List.getElem_toArray, List.getElem_cons_succ, List.getElem_cons_zero, List.setIfInBounds_toArray, List.set_cons_succ, List.set_cons_zero]
      refine wpAnyH_take (i := 3) (v := (.pointer (some ⟨bk1, o1 + k, none⟩))) rfl (by kernel_rfl) (by kernel_rfl) (by kernel_rfl) (fun _ _ _ h => (show False from h).elim) ?xySMint4 ?xhSMint4 ?xrSMint4
      case xhSMint4 => exact hHeld
      case xySMint4 => exact Or.inl ⟨by rfl, fun W9 hW => by clear hHeld; simp only [List.getElem_toArray, List.getElem_cons_succ, List.getElem_cons_zero]; go_simp⟩
      simp only [Act.put, List.getElem_toArray, List.getElem_cons_succ, List.getElem_cons_zero, List.setIfInBounds_toArray, List.set_cons_succ, List.set_cons_zero]
      refine wpAnyH_take (i := 4) (v := (.int .i64 z0)) rfl (by kernel_rfl) (by kernel_rfl) (by kernel_rfl) (fun _ _ _ h => (show False from h).elim) ?xySMint5 ?xhSMint5 ?xrSMint5
      case xhSMint5 => exact hHeld
      case xySMint5 => exact Or.inl ⟨by rfl, fun W9 hW => by have hWW := HSI.out _ hW; have q0 := HX.out _ hWW 0 _ rfl; rw [Nat.mul_one, Nat.add_zero] at q0; clear hHeld; simp only [List.getElem_toArray, List.getElem_cons_succ, List.getElem_cons_zero]; go_simp⟩
      simp only [Act.put, List.getElem_toArray, List.getElem_cons_succ, List.getElem_cons_zero, List.setIfInBounds_toArray, List.set_cons_succ, List.set_cons_zero]
      refine wpAnyH_take (i := 5) (v := (.slice (some ⟨bk2, o2, none⟩) n c2)) rfl (by kernel_rfl) (by kernel_rfl) (by kernel_rfl) (fun _ _ _ h => (show False from h).elim) ?xySMint6 ?xhSMint6 ?xrSMint6
      case xhSMint6 => exact hHeld
      case xySMint6 => exact Or.inl ⟨by rfl, fun W9 hW => by clear hHeld; simp only [List.getElem_toArray, List.getElem_cons_succ, List.getElem_cons_zero]; go_simp⟩
      simp only [Act.put, List.getElem_toArray, List.getElem_cons_succ, List.getElem_cons_zero, List.setIfInBounds_toArray, List.set_cons_succ, List.set_cons_zero]
      refine wpAnyH_take (i := 6) (v := (.int .i64 (k : Int))) rfl (by kernel_rfl) (by kernel_rfl) (by kernel_rfl) (fun _ _ _ h => (show False from h).elim) ?xySMint7 ?xhSMint7 ?xrSMint7
      case xhSMint7 => exact hHeld
      case xySMint7 => exact Or.inl ⟨by rfl, fun W9 hW => by clear hHeld; simp only [List.getElem_toArray, List.getElem_cons_succ, List.getElem_cons_zero]; go_simp⟩
      simp only [Act.put, List.getElem_toArray, List.getElem_cons_succ, List.getElem_cons_zero, List.setIfInBounds_toArray, List.set_cons_succ, List.set_cons_zero]
      refine wpAnyH_take (i := 7) (v := (.pointer (some ⟨bk2, o2 + k, none⟩))) rfl (by kernel_rfl) (by kernel_rfl) (by kernel_rfl) (fun _ _ _ h => (show False from h).elim) ?xySMint8 ?xhSMint8 ?xrSMint8
      case xhSMint8 => exact hHeld
      case xySMint8 => exact Or.inl ⟨by rfl, fun W9 hW => by clear hHeld; simp only [List.getElem_toArray, List.getElem_cons_succ, List.getElem_cons_zero]; go_simp⟩
      simp only [Act.put, List.getElem_toArray, List.getElem_cons_succ, List.getElem_cons_zero, List.setIfInBounds_toArray, List.set_cons_succ, List.set_cons_zero]
      refine wpAnyH_take (i := 8) (v := (.int .i64 z0)) rfl (by kernel_rfl) (by kernel_rfl) (by kernel_rfl) (fun _ _ _ h => (show False from h).elim) ?xySMint9 ?xhSMint9 ?xrSMint9
      case xhSMint9 => exact hHeld
      case xySMint9 => exact Or.inl ⟨by rfl, fun W9 hW => by have hWW := HSI.out _ hW; have q0 := HY.out _ hWW 0 _ rfl; rw [Nat.mul_one, Nat.add_zero] at q0; clear hHeld; simp only [List.getElem_toArray, List.getElem_cons_succ, List.getElem_cons_zero]; go_simp⟩
      simp only [Act.put, List.getElem_toArray, List.getElem_cons_succ, List.getElem_cons_zero, List.setIfInBounds_toArray, List.set_cons_succ, List.set_cons_zero]
      have CC := hid (CF.out _ HWd.out)
      refine wpAnyH_ready (rs := [9]) (by kernel_rfl) (by simp) ?_
      refine AllReadyH.cons rfl (fun K hK => ?_) AllReadyH.nil
      go_simp
      go_wp2_with (first | (go_at_call 114; refine CC.out.mono ?_; rintro en wE ⟨rfl, hbE⟩; have HBE := hid (HWd.out.trans (hbE.mono HWd.out.size)); clear hbE))
      refine hK.out _ _ (HS.out _ HBE.out) (fun hHeld => ?_)
      clear hK K
      refine wpAnyH_take (i := 10) (v := (.bool false)) rfl (by kernel_rfl) (by kernel_rfl) (by kernel_rfl) (fun _ _ _ h => (show False from h).elim) ?xySMint10 ?xhSMint10 ?xrSMint10
      case xhSMint10 => exact hHeld
      case xySMint10 => exact Or.inl ⟨by rfl, fun W9 hW => by clear hHeld; simp only [List.getElem_toArray, List.getElem_cons_succ, List.getElem_cons_zero]; go_simp⟩
      simp only [Act.put, List.getElem_toArray, List.getElem_cons_succ, List.getElem_cons_zero, List.setIfInBounds_toArray, List.set_cons_succ, List.set_cons_zero]
      refine wpAnyH_done (by kernel_rfl) ?_ _
      refine NoPanic.normal ?_
      go_wp2_with fail
      go_roundw
      case rel => exact ⟨k + 1, by omega, by go_num, HBE.out⟩
      case measure => simp [intOf]; omega
    · obtain rfl : n = k := by omega
      have hki : ¬ (n : Int) < (n : Int) := by omega
      go_wp2_with fail
      go_ret
      exact ⟨rfl, HB.out⟩

set_option maxHeartbeats 1000000 in
theorem plain_int {w : World} {v1 v2 : Value} {b : List UInt8} (h1 : Enc w (.list .int) [v1] b) (h2 : Enc w (.list .int) [v2] b) (hl : b.length ≤ 5000) :
    Calls Try.prog 85 #[v1, v2] w (fun e w' => e = .returned (.bool true) ∧ Below w.heap.size w w') := by
  have C := hid (same_int h1 h2 hl)
  clear h1 h2 hl
  go_enter Try.func85, Try.ntmps85
  go_wp2_with (first | (go_at_call 113; refine C.out.mono ?_; rintro en w2 ⟨rfl, hb⟩; have HB := hid hb; clear hb))
  go_ret
  exact ⟨rfl, HB.out⟩

set_option maxHeartbeats 1000000 in
theorem plain1_Column (z0 : ByteArray) (z1 : Int) (z2 : Bool) (w : World) : Calls Try.prog 112 #[.agg #[(.string z0), (.int .i64 z1), (.bool z2)], .agg #[(.string z0), (.int .i64 z1), (.bool z2)]] w (fun e w' => e = .returned (.bool true) ∧ Below w.heap.size w w') := by
  have hb : Below w.heap.size w ((w.alloc (.cells #[(.string z0), (.int .i64 z1), (.bool z2)] 120)).alloc (.cells #[(.string z0), (.int .i64 z1), (.bool z2)] 120)) := ((Below.refl _ _).alloc (Nat.le_refl _) _).alloc (by simp) _
  have h0 : ((w.alloc (.cells #[(.string z0), (.int .i64 z1), (.bool z2)] 120)).alloc (.cells #[(.string z0), (.int .i64 z1), (.bool z2)] 120)).heap[w.heap.size]? = some (.cells ([(.string z0), (.int .i64 z1), (.bool z2)] : List Value).toArray 120 (0, 0)) := (Below.heap_alloc (w.alloc (.cells #[(.string z0), (.int .i64 z1), (.bool z2)] 120)) (.cells #[(.string z0), (.int .i64 z1), (.bool z2)] 120) w.heap.size (by simp)).trans (heap_alloc_new w (.cells #[(.string z0), (.int .i64 z1), (.bool z2)] 120))
  have h1 : ((w.alloc (.cells #[(.string z0), (.int .i64 z1), (.bool z2)] 120)).alloc (.cells #[(.string z0), (.int .i64 z1), (.bool z2)] 120)).heap[w.heap.size + 1]? = some (.cells ([(.string z0), (.int .i64 z1), (.bool z2)] : List Value).toArray 120 (0, 0)) := heap_alloc2_new w (.cells #[(.string z0), (.int .i64 z1), (.bool z2)] 120) (.cells #[(.string z0), (.int .i64 z1), (.bool z2)] 120)
  have c0 : ∀ (i : Nat) u, ([(.string z0), (.int .i64 z1), (.bool z2)] : List Value)[i]? = some u → ((w.alloc (.cells #[(.string z0), (.int .i64 z1), (.bool z2)] 120)).alloc (.cells #[(.string z0), (.int .i64 z1), (.bool z2)] 120)).cell? ⟨w.heap.size, i, none⟩ = some u := fun i u hu => by simp only [World.cell?, h0]; simpa using hu
  have c1 : ∀ (i : Nat) u, ([(.string z0), (.int .i64 z1), (.bool z2)] : List Value)[i]? = some u → ((w.alloc (.cells #[(.string z0), (.int .i64 z1), (.bool z2)] 120)).alloc (.cells #[(.string z0), (.int .i64 z1), (.bool z2)] 120)).cell? ⟨w.heap.size + 1, i, none⟩ = some u := fun i u hu => by simp only [World.cell?, h1]; simpa using hu
  have x0 := c0 0 _ rfl
  have y0 := c1 0 _ rfl
  have x1 := c0 1 _ rfl
  have y1 := c1 1 _ rfl
  have x2 := c0 2 _ rfl
  have y2 := c1 2 _ rfl
  clear h0 h1 c0 c1
  go_enter Try.func112, Try.ntmps112
  go_upto_region 1 with fail
  generalize (w.alloc (.cells #[(.string z0), (.int .i64 z1), (.bool z2)] 120)).alloc (.cells #[(.string z0), (.int .i64 z1), (.bool z2)] 120) = w1 at *
  go_wp2_with fail
  go_ret
  exact ⟨rfl, hb⟩

set_option maxHeartbeats 8000000 in
theorem same_Column {w : World} {v1 v2 : Value} {b : List UInt8} (h1 : Enc w (.list sColumn) [v1] b) (h2 : Enc w (.list sColumn) [v2] b) (hl : b.length ≤ 5000) :
    Calls Try.prog 111 #[v1, v2, (.func (.func 112) #[] #[])] w (fun e w' => e = .returned (.bool true) ∧ Below w.heap.size w w') := by
  obtain ⟨a1, n, c1, M1, rfl, hL1, rfl⟩ := list_open h1
  obtain ⟨a2, n2, c2, M2, rfl, hL2, hbb⟩ := list_open h2
  obtain ⟨hnn, hM⟩ := list_pair (by decide) hL1 hL2 hbb hl
  subst hnn
  have hc1 := hL1.cap.1
  have hc2 := hL2.cap.1
  have hn6 := hL1.cap.2.1
  have htl : (takeB M1 n).length ≤ 5000 := by rw [List.length_append] at hl; omega
  have HL1 := hid hL1
  have HL2 := hid hL2
  have HM := hid (And.intro hM htl)
  clear h1 h2 hL1 hL2 hM hbb hl htl
  go_enter Try.func111, Try.ntmps111
  go_wp2_with fail
  go_loopw [7] (fun i wr => ∃ k, k ≤ n ∧ i = .int .i64 (k : Int) ∧ Below w.heap.size w wr) (fun i _ => n - (intOf i).toNat)
  case atStart => exact ⟨0, by omega, rfl, Below.refl _ _⟩
  case round =>
    obtain ⟨k, hk, rfl, hb⟩ := hrel
    have HB := hid hb
    clear hb
    by_cases hlt : k < n
    · have hki : (k : Int) < (n : Int) := by omega
      obtain ⟨x, y, b, bk1, o1, bk2, o2, hx, hy, hbl, rfl, rfl, hcx, hcy⟩ := pair_get HL1.out HL2.out HM.out.1 (by decide) hlt HM.out.2
      obtain ⟨v0, v1, v2, b0, b1, b2, rfl, rfl, e0, e1, e2⟩ := Column_cells hx
      obtain ⟨u0, u1, u2, p0, p1, p2, rfl, hbq, f0, f1, f2⟩ := Column_cells hy
      have hbl2 : (p0 ++ (p1 ++ p2)).length ≤ 5000 := by rw [← hbq]; exact hbl
      simp only [List.length_append] at hbl hbl2
      obtain ⟨rfl, hbq0⟩ := enc_inj (by decide) e0 f0 (by omega) (by omega) hbq
      obtain ⟨rfl, hbq1⟩ := enc_inj (by decide) e1 f1 (by omega) (by omega) hbq0
      subst hbq1
      obtain ⟨z0, rfl, rfl⟩ := eq_name e0 f0
      obtain ⟨z1, rfl, rfl⟩ := eq_int e1 f1
      obtain ⟨z2, rfl, rfl⟩ := eq_bool e2 f2
      have CF : Hid (∀ V, Below w.heap.size w V → Calls Try.prog 112 #[.agg #[(.string z0), (.int .i64 z1), (.bool z2)], .agg #[(.string z0), (.int .i64 z1), (.bool z2)]] V (fun e w' => e = .returned (.bool true) ∧ Below V.heap.size V w')) := hid fun V _ => plain1_Column z0 z1 z2 V
      have hX : ∀ V, Below w.heap.size w V → ∀ (j : Nat) u, ([(.string z0), (.int .i64 z1), (.bool z2)] : List Value)[j]? = some u → V.cell? ⟨bk1, o1 + k * 3 + j, none⟩ = some u := hcx
      have hY : ∀ V, Below w.heap.size w V → ∀ (j : Nat) u, ([(.string z0), (.int .i64 z1), (.bool z2)] : List Value)[j]? = some u → V.cell? ⟨bk2, o2 + k * 3 + j, none⟩ = some u := hcy
      have HX := hid hX
      have HY := hid hY
      clear hX hY hcx hcy
      go_upto_region 6 with fail
      have HWd : Hid (Below w.heap.size w wr.drew) := hid (HB.out.trans ((show Below wr.heap.size wr wr.drew from ⟨rfl, rfl, rfl, Nat.le_refl _, fun _ _ => rfl⟩).mono HB.out.size))
      obtain ⟨S9, hS9⟩ : ∃ S9 : World → Prop, S9 = fun V => Below w.heap.size w V := ⟨_, rfl⟩
      have HS : Hid (∀ V, Below w.heap.size w V → S9 V) := hid fun V h => by rw [hS9]; exact h
      have HSI : Hid (∀ V, S9 V → Below w.heap.size w V) := hid fun V h => by rw [hS9] at h; exact h
      clear hS9
      refine wp_region_noPanic ?_
      refine wp_region_held_drew (S := S9) (by kernel_rfl) (HS.out _ HWd.out) (fun hHeld => ?_)
      generalize wr.drew = Wd at *
      refine wpAnyH_take (i := 0) (v := (.func (.func 112) #[] #[])) rfl (by kernel_rfl) (by kernel_rfl) (by kernel_rfl) (fun _ _ _ h => (show False from h).elim) ?xySMColumn1 ?xhSMColumn1 ?xrSMColumn1
      case xhSMColumn1 => exact hHeld
      case xySMColumn1 => exact Or.inl ⟨by rfl, fun W9 hW => by clear hHeld; simp only [List.getElem_toArray, List.getElem_cons_succ, List.getElem_cons_zero]; go_simp⟩
      simp only [Act.put, List.getElem_toArray, List.getElem_cons_succ, List.getElem_cons_zero, List.setIfInBounds_toArray, List.set_cons_succ, List.set_cons_zero]
      refine wpAnyH_take (i := 1) (v := (.slice (some ⟨bk1, o1, none⟩) n c1)) rfl (by kernel_rfl) (by kernel_rfl) (by kernel_rfl) (fun _ _ _ h => (show False from h).elim) ?xySMColumn2 ?xhSMColumn2 ?xrSMColumn2
      case xhSMColumn2 => exact hHeld
      case xySMColumn2 => exact Or.inl ⟨by rfl, fun W9 hW => by clear hHeld; simp only [List.getElem_toArray, List.getElem_cons_succ, List.getElem_cons_zero]; go_simp⟩
      simp only [Act.put, List.getElem_toArray, List.getElem_cons_succ, List.getElem_cons_zero, List.setIfInBounds_toArray, List.set_cons_succ, List.set_cons_zero]
      refine wpAnyH_take (i := 2) (v := (.int .i64 (k : Int))) rfl (by kernel_rfl) (by kernel_rfl) (by kernel_rfl) (fun _ _ _ h => (show False from h).elim) ?xySMColumn3 ?xhSMColumn3 ?xrSMColumn3
      case xhSMColumn3 => exact hHeld
      case xySMColumn3 => exact Or.inl ⟨by rfl, fun W9 hW => by clear hHeld; simp only [List.getElem_toArray, List.getElem_cons_succ, List.getElem_cons_zero]; go_simp⟩
      simp only [Act.put, List.getElem_toArray, List.getElem_cons_succ, List.getElem_cons_zero, List.setIfInBounds_toArray, List.set_cons_succ, List.set_cons_zero]
      refine wpAnyH_take (i := 3) (v := (.pointer (some ⟨bk1, o1 + k * 3, none⟩))) rfl (by kernel_rfl) (by kernel_rfl) (by kernel_rfl) (fun _ _ _ h => (show False from h).elim) ?xySMColumn4 ?xhSMColumn4 ?xrSMColumn4
      case xhSMColumn4 => exact hHeld
      case xySMColumn4 => exact Or.inl ⟨by rfl, fun W9 hW => by clear hHeld; simp only [List.getElem_toArray, List.getElem_cons_succ, List.getElem_cons_zero]; go_simp⟩
      simp only [Act.put, List.getElem_toArray, List.getElem_cons_succ, List.getElem_cons_zero, List.setIfInBounds_toArray, List.set_cons_succ, List.set_cons_zero]
      refine wpAnyH_take (i := 4) (v := (.agg #[(.string z0), (.int .i64 z1), (.bool z2)])) rfl (by kernel_rfl) (by kernel_rfl) (by kernel_rfl) (fun _ _ _ h => (show False from h).elim) ?xySMColumn5 ?xhSMColumn5 ?xrSMColumn5
      case xhSMColumn5 => exact hHeld
      case xySMColumn5 => exact Or.inl ⟨by rfl, fun W9 hW => by have hWW := HSI.out _ hW; have q0 := HX.out _ hWW 0 _ rfl; rw [Nat.add_zero] at q0; have q1 := HX.out _ hWW 1 _ rfl; have q2 := HX.out _ hWW 2 _ rfl; clear hHeld; simp only [List.getElem_toArray, List.getElem_cons_succ, List.getElem_cons_zero]; go_simp⟩
      simp only [Act.put, List.getElem_toArray, List.getElem_cons_succ, List.getElem_cons_zero, List.setIfInBounds_toArray, List.set_cons_succ, List.set_cons_zero]
      refine wpAnyH_take (i := 5) (v := (.slice (some ⟨bk2, o2, none⟩) n c2)) rfl (by kernel_rfl) (by kernel_rfl) (by kernel_rfl) (fun _ _ _ h => (show False from h).elim) ?xySMColumn6 ?xhSMColumn6 ?xrSMColumn6
      case xhSMColumn6 => exact hHeld
      case xySMColumn6 => exact Or.inl ⟨by rfl, fun W9 hW => by clear hHeld; simp only [List.getElem_toArray, List.getElem_cons_succ, List.getElem_cons_zero]; go_simp⟩
      simp only [Act.put, List.getElem_toArray, List.getElem_cons_succ, List.getElem_cons_zero, List.setIfInBounds_toArray, List.set_cons_succ, List.set_cons_zero]
      refine wpAnyH_take (i := 6) (v := (.int .i64 (k : Int))) rfl (by kernel_rfl) (by kernel_rfl) (by kernel_rfl) (fun _ _ _ h => (show False from h).elim) ?xySMColumn7 ?xhSMColumn7 ?xrSMColumn7
      case xhSMColumn7 => exact hHeld
      case xySMColumn7 => exact Or.inl ⟨by rfl, fun W9 hW => by clear hHeld; simp only [List.getElem_toArray, List.getElem_cons_succ, List.getElem_cons_zero]; go_simp⟩
      simp only [Act.put, List.getElem_toArray, List.getElem_cons_succ, List.getElem_cons_zero, List.setIfInBounds_toArray, List.set_cons_succ, List.set_cons_zero]
      refine wpAnyH_take (i := 7) (v := (.pointer (some ⟨bk2, o2 + k * 3, none⟩))) rfl (by kernel_rfl) (by kernel_rfl) (by kernel_rfl) (fun _ _ _ h => (show False from h).elim) ?xySMColumn8 ?xhSMColumn8 ?xrSMColumn8
      case xhSMColumn8 => exact hHeld
      case xySMColumn8 => exact Or.inl ⟨by rfl, fun W9 hW => by clear hHeld; simp only [List.getElem_toArray, List.getElem_cons_succ, List.getElem_cons_zero]; go_simp⟩
      simp only [Act.put, List.getElem_toArray, List.getElem_cons_succ, List.getElem_cons_zero, List.setIfInBounds_toArray, List.set_cons_succ, List.set_cons_zero]
      refine wpAnyH_take (i := 8) (v := (.agg #[(.string z0), (.int .i64 z1), (.bool z2)])) rfl (by kernel_rfl) (by kernel_rfl) (by kernel_rfl) (fun _ _ _ h => (show False from h).elim) ?xySMColumn9 ?xhSMColumn9 ?xrSMColumn9
      case xhSMColumn9 => exact hHeld
      case xySMColumn9 => exact Or.inl ⟨by rfl, fun W9 hW => by have hWW := HSI.out _ hW; have q0 := HY.out _ hWW 0 _ rfl; rw [Nat.add_zero] at q0; have q1 := HY.out _ hWW 1 _ rfl; have q2 := HY.out _ hWW 2 _ rfl; clear hHeld; simp only [List.getElem_toArray, List.getElem_cons_succ, List.getElem_cons_zero]; go_simp⟩
      simp only [Act.put, List.getElem_toArray, List.getElem_cons_succ, List.getElem_cons_zero, List.setIfInBounds_toArray, List.set_cons_succ, List.set_cons_zero]
      have CC := hid (CF.out _ HWd.out)
      refine wpAnyH_ready (rs := [9]) (by kernel_rfl) (by simp) ?_
      refine AllReadyH.cons rfl (fun K hK => ?_) AllReadyH.nil
      go_simp
      go_wp2_with (first | (go_at_call 112; refine CC.out.mono ?_; rintro en wE ⟨rfl, hbE⟩; have HBE := hid (HWd.out.trans (hbE.mono HWd.out.size)); clear hbE))
      refine hK.out _ _ (HS.out _ HBE.out) (fun hHeld => ?_)
      clear hK K
      refine wpAnyH_take (i := 10) (v := (.bool false)) rfl (by kernel_rfl) (by kernel_rfl) (by kernel_rfl) (fun _ _ _ h => (show False from h).elim) ?xySMColumn10 ?xhSMColumn10 ?xrSMColumn10
      case xhSMColumn10 => exact hHeld
      case xySMColumn10 => exact Or.inl ⟨by rfl, fun W9 hW => by clear hHeld; simp only [List.getElem_toArray, List.getElem_cons_succ, List.getElem_cons_zero]; go_simp⟩
      simp only [Act.put, List.getElem_toArray, List.getElem_cons_succ, List.getElem_cons_zero, List.setIfInBounds_toArray, List.set_cons_succ, List.set_cons_zero]
      refine wpAnyH_done (by kernel_rfl) ?_ _
      refine NoPanic.normal ?_
      go_wp2_with fail
      go_roundw
      case rel => exact ⟨k + 1, by omega, by go_num, HBE.out⟩
      case measure => simp [intOf]; omega
    · obtain rfl : n = k := by omega
      have hki : ¬ (n : Int) < (n : Int) := by omega
      go_wp2_with fail
      go_ret
      exact ⟨rfl, HB.out⟩

set_option maxHeartbeats 1000000 in
theorem plain_Column {w : World} {v1 v2 : Value} {b : List UInt8} (h1 : Enc w (.list sColumn) [v1] b) (h2 : Enc w (.list sColumn) [v2] b) (hl : b.length ≤ 5000) :
    Calls Try.prog 84 #[v1, v2] w (fun e w' => e = .returned (.bool true) ∧ Below w.heap.size w w') := by
  have C := hid (same_Column h1 h2 hl)
  clear h1 h2 hl
  go_enter Try.func84, Try.ntmps84
  go_wp2_with (first | (go_at_call 111; refine C.out.mono ?_; rintro en w2 ⟨rfl, hb⟩; have HB := hid hb; clear hb))
  go_ret
  exact ⟨rfl, HB.out⟩

set_option maxHeartbeats 8000000 in
theorem samest_Table {w : World} {v0 v1 v2 v3 u0 u1 u2 u3 : Value} {b0 b1 b2 b3 : List UInt8} (e0 : Enc w .int [v0] b0) (f0 : Enc w .int [u0] b0) (e1 : Enc w .name [v1] b1) (f1 : Enc w .name [u1] b1) (e2 : Enc w (.list sColumn) [v2] b2) (f2 : Enc w (.list sColumn) [u2] b2) (e3 : Enc w (.list .int) [v3] b3) (f3 : Enc w (.list .int) [u3] b3) (hl : (b0 ++ (b1 ++ (b2 ++ b3))).length ≤ 5000) :
    Calls Try.prog 45 #[.agg #[v0, v1, v2, v3], .agg #[u0, u1, u2, u3]] w (fun e w' => e = .returned (.bool true) ∧ Below w.heap.size w w') := by
  simp only [List.length_append] at hl
  obtain ⟨z0, rfl, rfl⟩ := eq_int e0 f0
  obtain ⟨z1, rfl, rfl⟩ := eq_name e1 f1
  have hb : Below w.heap.size w ((w.alloc (.cells #[(.int .i64 z0), (.string z1), v2, v3] 34)).alloc (.cells #[(.int .i64 z0), (.string z1), u2, u3] 34)) := ((Below.refl _ _).alloc (Nat.le_refl _) _).alloc (by simp) _
  have h0 : ((w.alloc (.cells #[(.int .i64 z0), (.string z1), v2, v3] 34)).alloc (.cells #[(.int .i64 z0), (.string z1), u2, u3] 34)).heap[w.heap.size]? = some (.cells ([(.int .i64 z0), (.string z1), v2, v3] : List Value).toArray 34 (0, 0)) := (Below.heap_alloc (w.alloc (.cells #[(.int .i64 z0), (.string z1), v2, v3] 34)) (.cells #[(.int .i64 z0), (.string z1), u2, u3] 34) w.heap.size (by simp)).trans (heap_alloc_new w (.cells #[(.int .i64 z0), (.string z1), v2, v3] 34))
  have h1 : ((w.alloc (.cells #[(.int .i64 z0), (.string z1), v2, v3] 34)).alloc (.cells #[(.int .i64 z0), (.string z1), u2, u3] 34)).heap[w.heap.size + 1]? = some (.cells ([(.int .i64 z0), (.string z1), u2, u3] : List Value).toArray 34 (0, 0)) := heap_alloc2_new w (.cells #[(.int .i64 z0), (.string z1), v2, v3] 34) (.cells #[(.int .i64 z0), (.string z1), u2, u3] 34)
  have C2 : Hid (∀ V, Below w.heap.size w V → _) := hid fun V hV => plain_Column (Enc.old hV _ e2) (Enc.old hV _ f2) (by omega)
  have C3 : Hid (∀ V, Below w.heap.size w V → _) := hid fun V hV => plain_int (Enc.old hV _ e3) (Enc.old hV _ f3) (by omega)
  have HC0 : Hid (∀ V, Below ((w.alloc (.cells #[(.int .i64 z0), (.string z1), v2, v3] 34)).alloc (.cells #[(.int .i64 z0), (.string z1), u2, u3] 34)).heap.size ((w.alloc (.cells #[(.int .i64 z0), (.string z1), v2, v3] 34)).alloc (.cells #[(.int .i64 z0), (.string z1), u2, u3] 34)) V → ∀ (i : Nat) u, ([(.int .i64 z0), (.string z1), v2, v3] : List Value)[i]? = some u → V.cell? ⟨w.heap.size, i, none⟩ = some u) := hid fun V hV i u hu => by have := (hV.block _ (lt_of_block h0)).trans h0; simp only [World.cell?, this]; simpa using hu
  have HC1 : Hid (∀ V, Below ((w.alloc (.cells #[(.int .i64 z0), (.string z1), v2, v3] 34)).alloc (.cells #[(.int .i64 z0), (.string z1), u2, u3] 34)).heap.size ((w.alloc (.cells #[(.int .i64 z0), (.string z1), v2, v3] 34)).alloc (.cells #[(.int .i64 z0), (.string z1), u2, u3] 34)) V → ∀ (i : Nat) u, ([(.int .i64 z0), (.string z1), u2, u3] : List Value)[i]? = some u → V.cell? ⟨w.heap.size + 1, i, none⟩ = some u) := hid fun V hV i u hu => by have := (hV.block _ (lt_of_block h1)).trans h1; simp only [World.cell?, this]; simpa using hu
  have HB := hid hb
  clear hb h0 h1 hl e0 f0 e1 f1 e2 f2 e3 f3
  go_enter Try.func45, Try.ntmps45
  go_upto_region 1 with fail
  generalize (w.alloc (.cells #[(.int .i64 z0), (.string z1), v2, v3] 34)).alloc (.cells #[(.int .i64 z0), (.string z1), u2, u3] 34) = w0 at *
  have x0 := HC0.out _ (Below.refl _ _) 0 _ rfl
  have y0 := HC1.out _ (Below.refl _ _) 0 _ rfl
  have x1 := HC0.out _ (Below.refl _ _) 1 _ rfl
  have y1 := HC1.out _ (Below.refl _ _) 1 _ rfl
  have x2 := HC0.out _ (Below.refl _ _) 2 _ rfl
  have y2 := HC1.out _ (Below.refl _ _) 2 _ rfl
  have x3 := HC0.out _ (Below.refl _ _) 3 _ rfl
  have y3 := HC1.out _ (Below.refl _ _) 3 _ rfl
  have HW0 : Hid (Below w0.heap.size w0 w0) := hid (Below.refl _ _)
  have CA0 := hid (C2.out _ HB.out)
  go_wp2_with (first | (go_at_call 84; refine CA0.out.mono ?_; rintro en r1 ⟨rfl, hb0⟩; have HW1 := hid (HW0.out.trans (hb0.mono HW0.out.size)); clear hb0; have CA1 := hid (C3.out _ (HB.out.trans (HW1.out.mono HB.out.size))); have x3_0 := HC0.out _ HW1.out 3 _ rfl; have y3_0 := HC1.out _ HW1.out 3 _ rfl) | (go_at_call 85; refine CA1.out.mono ?_; rintro en r2 ⟨rfl, hb1⟩; have HW2 := hid (HW1.out.trans (hb1.mono HW1.out.size)); clear hb1))
  go_ret
  exact ⟨rfl, HB.out.trans (HW2.out.mono HB.out.size)⟩

end Go.Proofs.Ytiblambiebojmaa

