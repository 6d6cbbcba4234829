import Derived.WalkKit
import Derived.OpenShut
import Derived.Test.YtmdgifmigikffaaGreatRows
import Derived.WalkSpells
import Derived.WalkLawsBesides
import Derived.Laws.AppendOwnNone
import Derived.ProofKit
import Derived.ShutString
import Derived.ChangeOld
import Derived.Below
import Derived.SizedLaws
import Derived.BigQuiet
import Derived.Deep.QuietTactic
import Derived.Deep.RegionHeld3
import Derived.StillTailTactics
import Derived.Deep.Slices
import Derived.Deep.AppendLies
import Derived.Deep.RegionHeld
import Derived.Deep.Strs
import Derived.Lib.ConvBytes
import Derived.Laws.AppendOwn
import Derived.Deep.CutRange
import Derived.Deep.MidRow
import Derived.Great.Walk
import Derived.Great.BuildSlice
import Derived.Test.YtmdgifmigikffaaGreatWX1
import Derived.Test.YtmdgifmigikffaaGreatWX2
import Derived.Test.YtmdgifmigikffaaGreatWX3
import Derived.Test.YtmdgifmigikffaaGreatWX4
import Derived.Test.YtmdgifmigikffaaGreatWX5
import Derived.Test.YtmdgifmigikffaaGreatWX6
import Derived.Test.YtmdgifmigikffaaGreatWX7
import Derived.Test.YtmdgifmigikffaaGreatWX8
import Derived.Test.YtmdgifmigikffaaGreatWX9
import Derived.Test.YtmdgifmigikffaaGreatWX10
import Derived.Test.YtmdgifmigikffaaGreatWX11
import Derived.Test.YtmdgifmigikffaaGreatWX12
set_option linter.unusedVariables false
set_option linter.unusedSimpArgs false
set_option maxRecDepth 100000
namespace Go.Proofs.YtmdgifmigikffaaGreat
open Go.RowKit Go.Deep
set_option maxHeartbeats 8000000 in
theorem ilnum_any {w : World} {Q : Nat} {st : Rst} (h : RI w Q st) :
 Calls Tryz.prog 44 #[.pointer (some ⟨Q, 0, none⟩)] w (fun en w' => ∃ v, en = .returned v ∧ RdI (.list .num) Q w st [v] w') := by
 obtain ⟨i0, hi0, hz0, hz1, hz2⟩ : ∃ i0, Tryz.prog.info? 25 = some i0 ∧ i0.zero = some (.int .u64 0) ∧ i0.size = 1 ∧ i0.bytes = 8 := by
  have h9 : (Tryz.prog.info? 25).map (fun i => (i.zero, i.size, i.bytes)) = some (some (.int .u64 0), 1, 8) := by kernel_rfl
  cases hq : Tryz.prog.info? 25 with
  | none => rw [hq] at h9; cases h9
  | some q => rw [hq] at h9; simp at h9; exact ⟨q, rfl, h9⟩
 have HI0 := hid (And.intro hi0 (And.intro hz0 (And.intro hz1 hz2)))
 clear hi0 hz0 hz1 hz2
 have hQw := h.lt
 have CM := hid (imany9_any h)
 obtain ⟨n, hn⟩ : ∃ n, n = (lookS 5000 st.1 st.2).1 := ⟨_, rfl⟩
 obtain ⟨s1, hs1⟩ : ∃ s1 : Rst, s1 = (st.1.drop (lookS 5000 st.1 st.2).2.1, (lookS 5000 st.1 st.2).2.2) := ⟨_, rfl⟩
 have hn5 : n ≤ 5000 := by rw [hn]; exact lookS_most _ _ _
 have hns : s1.2 ≠ 0 → n = 0 := fun e => by rw [hs1] at e; rw [hn]; exact look_fault2 _ _ _ e
 unfold IMany at CM
 rw [← hn, ← hs1] at CM
 have HN := hid (And.intro hn (And.intro hs1 hns))
 clear hn hs1 hns h
 go_enter Tryz.func44, Tryz.ntmps44
 go_wp2_with (first | (go_at_call 99; refine CM.out.mono ?_; rintro en w1 ⟨rfl, hr, hk⟩; have HR := hid hr; have HK := hid hk; clear hr hk))
 go_loopw [3, 5] (fun x i wr => ∃ (k : Nat) (M : List (List Value × List UInt8)) (ao : Option Addr) (c : Nat) (sk : Rst), x = .slice ao k c ∧ i = .int .i64 (k : Int) ∧ ILp .num 25 Q w n s1 wr k M ao c sk) (fun _ i _ => n - (intOf i).toNat)
 case atStart => exact ⟨0, [], none, 0, s1, rfl, rfl, ILp.begin HR.out HK.out HN.out.2.2⟩
 case round =>
  obtain ⟨k, M, ao, c, sk, rfl, rfl, ht⟩ := hrel
  have hk := ht.le
  have HT := hid ht
  have CF := hid (ifault_any ht.ri)
  clear ht
  by_cases hlt : k < n
  · have hki : (k : Int) < (n : Int) := by omega
    by_cases hf : sk.2 = 0
    · rw [show decide (sk.2 ≠ 0) = false from by simp [hf]] at CF
      have HF := hid hf
      clear hf
      have CE := hid (inum9_any HT.out.ri)
      go_wp2_with (first
       | (go_at_call 76; refine CF.out.mono ?_; rintro en wf ⟨rfl, rfl⟩)
       | (go_at_call 28; refine CE.out.mono ?_; rintro en w2 ⟨v, rfl, bb, E, ob, r1, k1⟩; obtain ⟨y0, rfl⟩ := form_num (EncN.enc _ E); have HE := hid E; have HO := hid ob; have HR1 := hid r1; have HK1 := hid k1; have HB3 := hid ((Below.refl _ w2).alloc (Nat.le_refl _) (.cells #[(.int .u64 (y0 : Int))] 25)); have HOW := hid (own_old (own_keep (X := fun j => j = Q) HT.out.own k1 (fun j e e9 => by have e8 : j = Q := e9; have := (HT.out.own.lt j e).1; omega)) HB3.out); have HSZ := hid (show w.heap.size ≤ (w2.alloc (.cells #[(.int .u64 (y0 : Int))] 25)).heap.size from Nat.le_trans HT.out.keep.size (Nat.le_trans k1.size HB3.out.size)); clear E ob r1 k1)
       | (at_builtin; refine wp_app1 rfl _ _ 46 rfl w.heap.size 25 Tryz.underlying46 HI0.out.1 HI0.out.2.1 HI0.out.2.2.1 HI0.out.2.2.2 (by simp [Value.cells]) (by decide) _ k _ rfl HOW.out w2.heap.size [(.int .u64 (y0 : Int))] rfl (heap_alloc_new w2 (.cells #[(.int .u64 (y0 : Int))] 25)) rfl (fun u hu => by simp only [List.mem_cons, List.not_mem_nil, or_false] at hu; rcases hu with rfl <;> rfl) (by omega) (by decide) HSZ.out ?_; intro g cap w4 o4 g4 gg; have HX := hid (HT.out.next hQw hlt HF.out HE.out HO.out HR1.out HK1.out HB3.out o4 g4 gg); clear o4 g4 gg))
      go_roundw
      case rel => exact ⟨k + 1, _, _, _, _, rfl, by go_num, HX.out⟩
      case measure => simp [intOf]; omega
    · rw [show decide (sk.2 ≠ 0) = true from by simp [hf]] at CF
      have HF := hid hf
      clear hf
      go_wp2_with (first | (go_at_call 76; refine CF.out.mono ?_; rintro en wf ⟨rfl, rfl⟩))
      go_ret
      have hT := HT.out
      rw [HN.out.1, HN.out.2.1] at hT
      exact ⟨_, rfl, hT.done (.inr HF.out)⟩
  · have hki : ¬ (k : Int) < (n : Int) := by omega
    go_wp2_with fail
    go_ret
    have hkn : k = n := by omega
    have hT := HT.out
    rw [HN.out.1, HN.out.2.1] at hT
    exact ⟨_, rfl, hT.done (.inl (hkn.trans HN.out.1))⟩
end Go.Proofs.YtmdgifmigikffaaGreat
namespace Go.Proofs.YtmdgifmigikffaaGreat
open Go.RowKit Go.Deep
set_option maxHeartbeats 8000000 in
theorem istOwner_any {w : World} {Q : Nat} {st : Rst} (h : RI w Q st) :
 Calls Tryz.prog 148 #[.pointer (some ⟨Q, 0, none⟩)] w (fun en w' => ∃ cs, en = .returned (.agg cs.toArray) ∧ RdI sOwner Q w st cs w') := by
 have hb : Below w.heap.size w (w.alloc (.cells #[(.int .i64 0), (.slice none 0 0)] 196)) := (Below.refl _ _).alloc (Nat.le_refl _) _
 have hz := heap_alloc_new w (.cells #[(.int .i64 0), (.slice none 0 0)] 196)
 have hQB := h.lt
 have HR0 := hid (h.keep (X := fun _ => False) (Keep.of_below hb) (fun _ e => e.elim))
 obtain ⟨B, hB⟩ : ∃ B, B = w.heap.size := ⟨_, rfl⟩
 rw [← hB] at hz hQB
 have HZ0 := hid hz
 have HBW := hid hb
 clear h hb hz
 go_enter Tryz.func148, Tryz.ntmps148
 go_upto_region 1 with fail
 generalize w.alloc (.cells #[(.int .i64 0), (.slice none 0 0)] 196) = w0 at *
 try rw [← hB]
 have HBE := hid hB
 clear hB
 have CQ := hid (iint9_any HR0.out)
 go_upto_region 2 with (first | (go_at_call 33; refine CQ.out.mono ?_; rintro en w1 ⟨v, rfl, bb0, E0, o0, r0, k0⟩; obtain ⟨y0, rfl⟩ := form_int (EncN.enc _ E0); have HE0 := hid E0; have HO0 := hid o0; have HRr := hid r0; have HKk := hid k0; clear E0 o0 r0 k0))
 have hb1 : Below w1.heap.size w1 (w1.alloc (.cells #[(.int .i64 y0), (.slice none 0 0)] 196)) := (Below.refl _ _).alloc (Nat.le_refl _) _
 have hp1 := heap_alloc_new w1 (.cells #[(.int .i64 y0), (.slice none 0 0)] 196)
 have hPz : B < w1.heap.size := Nat.lt_of_lt_of_le (lt_of_block HZ0.out) HKk.out.size
 have HE0 := hid (EncN.keep (X := fun _ => False) (Keep.of_below hb1) (fun _ _ e => e) _ (EncN.mono (N' := fun k => B < k ∧ k ≠ w1.heap.size ∧ k < w1.heap.size + 1) (fun k hk => ⟨Nat.lt_of_lt_of_le (lt_of_block HZ0.out) hk.1, by omega, by omega⟩) _ HE0.out))
 have HR1 := hid (HRr.out.keep (X := fun _ => False) (Keep.of_below hb1) (fun _ e => e.elim))
 have HK1 := hid (((Keep.of_below (X := fun k => k = Q) HBW.out).trans HKk.out).trans (Keep.of_below hb1))
 have HZ1 := hid ((hb1.block B hPz).trans ((HKk.out.block B (lt_of_block HZ0.out) (fun e => by have e9 : B = Q := e; omega)).trans HZ0.out))
 obtain ⟨P, hP⟩ : ∃ P, P = w1.heap.size := ⟨_, rfl⟩
 rw [← hP] at hp1 hPz HE0 ⊢
 have HP1 := hid hp1
 have hsz1 := lt_of_block hp1
 clear hb1 hp1 hP HRr HKk CQ HZ0 HR0
 generalize w1.alloc (.cells #[(.int .i64 y0), (.slice none 0 0)] 196) = u1 at *
 have HE0 : Hid (EncN (fun k => B < k ∧ k ≠ P ∧ k < u1.heap.size) u1 .int [(.int .i64 y0)] bb0) := hid (EncN.mono (fun k hk => ⟨hk.1, hk.2.1, by have := hk.2.2; omega⟩) _ HE0.out)
 clear hsz1
 have CQ := hid (ibytes9_any HR1.out)
 go_upto_region 3 with (first | (go_at_call 29; refine CQ.out.mono ?_; rintro en w2 ⟨v, rfl, bb1, E1, o1, r1, k1⟩; obtain ⟨y1, j1, c1, rfl⟩ := form_data (EncN.enc _ E1); have hPx := (k1.block P (lt_of_block HP1.out) (fun e => by have e9 : P = Q := e; omega)).trans HP1.out; obtain ⟨qq1, rr1⟩ := row_at hPx (i := 1) rfl; have HPx := hid hPx; clear hPx; have HE1 := hid E1; have HO1 := hid o1; have HRr := hid r1; have HKk := hid k1; clear E1 o1 r1 k1))
 have hs0 := HPx.out
 have hs1 := row_put hs0 1 (.slice y1 j1 c1)
 have HP2 : Hid ((w2.setCell ⟨P, 1, none⟩ (.slice y1 j1 c1)).heap[P]? = some (.cells #[(.int .i64 y0), (.slice y1 j1 c1)] 196 (0, 0))) := hs1
 have hks : Keep (fun k => k = P) w2 (w2.setCell ⟨P, 1, none⟩ (.slice y1 j1 c1)) := (Keep.refl (fun k => k = P) _).trans (Keep.set (X := fun k => k = P) _ ⟨P, 1, none⟩ (.slice y1 j1 c1) rfl)
 have HR2 := hid (HRr.out.keep hks (fun k e => by have e9 : k = P := e; omega))
 have HK2 := hid ((HK1.out.trans HKk.out).trans2 hks (fun k e => .inr (by have e9 : k = P := e; have := HBE.out; omega)))
 have hkk : Keep (fun k => k = Q ∨ k = P) u1 (w2.setCell ⟨P, 1, none⟩ (.slice y1 j1 c1)) := (HKk.out.mono (fun k _ e => .inl e)).trans (hks.mono (fun k _ e => .inr e))
 have hzz := (hkk.block B (lt_of_block HZ1.out) (fun e => by have e9 : B = Q ∨ B = P := e; omega)).trans HZ1.out
 have HZ2 := hid hzz
 clear hzz
 have HE0 := hid (EncN.hop (Nat.le_of_lt hQB) hkk HE0.out)
 have HE1 := hid (EncN.mono (N' := fun k => B < k ∧ k ≠ P ∧ k < (w2.setCell ⟨P, 1, none⟩ (.slice y1 j1 c1)).heap.size) (fun k hk => ⟨by have := lt_of_block HZ1.out; omega, by have := lt_of_block HP1.out; omega, Nat.lt_of_lt_of_le hk.2 hks.size⟩) _ (EncN.keep hks (fun k hk e => by have e9 : k = P := e; have := lt_of_block HP1.out; have := hk.1; omega) _ HE1.out))
 clear hs0 hs1 hks hkk HRr HKk HPx HP1 HR1 HK1 HZ1 CQ
 generalize w2.setCell ⟨P, 1, none⟩ (.slice y1 j1 c1) = u2 at *
 have LD := cells_load (cs := [(.int .i64 y0), (.slice y1 j1 c1)]) (fun i u hi => (row_at HP2.out hi).1) Tryz.underlying196 rfl (by kernel_rfl)
 have HLD := hid LD
 clear LD
 have HSF := hid (setRow_heap u2 B _ (#[(.int .i64 y0), (.slice y1 j1 c1)] : Array Value) _ _ HZ2.out)
 have HKS := hid (setRow_keep u2 B (#[(.int .i64 y0), (.slice y1 j1 c1)] : Array Value))
 have HZZ : Hid (u2.heap[B]? = some (.cells (#[(.int .i64 0), (.slice none 0 0)] : Array Value) 196 (0, 0))) := HZ2
 apply wp_region_lit
 refine Great.wpList_readTo rfl (some 10) rfl (.agg #[(.int .i64 y0), (.slice y1 j1 c1)]) (exec_load rfl HLD.out) ?_
 simp only [Act.put, jA, jB, jC, jD, jE, jF]
 refine Go.wpList_store_rowTo rfl 196 _ _ rfl rfl B #[(.int .i64 y0), (.slice y1 j1 c1)] rfl rfl 196 #[(.int .i64 0), (.slice none 0 0)] HZZ.out (by as_aux_lemma => kernel_rfl) rfl (by simp [Value.oneCell']) ?_
 generalize u2.setRow B #[(.int .i64 y0), (.slice y1 j1 c1)] = uZ at *
 go_wp2_with fail
 refine bodyPost_ret (results_cell_row rfl _ _ B 196 _ (0, 0) _ rfl HSF.out Tryz.underlying196 rfl (by kernel_rfl)) rfl ?_
 have hfin : ∀ (s : Sh) (cs : List Value) (bs : List UInt8), EncN (fun k => B < k ∧ k ≠ P ∧ k < u2.heap.size) u2 s cs bs → EncN (fun k => w.heap.size ≤ k ∧ k < uZ.heap.size) uZ s cs bs := fun s cs bs h9 => EncN.mono (fun k hk => ⟨by have := HBE.out; have := hk.1; omega, Nat.lt_of_lt_of_le hk.2.2 HKS.out.size⟩) s (EncN.keep HKS.out (fun k hk e => by have e9 : k = B := e; have := hk.1; omega) s h9)
 have hF : FinI (fun k => w.heap.size ≤ k ∧ k < uZ.heap.size) uZ sOwner st [(.int .i64 y0), (.slice y1 j1 c1)] _ := FinI.cons (hfin _ _ _ HE0.out) HO0.out (FinI.cons (hfin _ _ _ HE1.out) HO1.out FinI.nil)
 obtain ⟨b, g1, g2, g3⟩ := hF
 refine ⟨[(.int .i64 y0), (.slice y1 j1 c1)], rfl, b, g1, g2, ?_, HK2.out.trans2 HKS.out (fun k e => .inr (by have e9 : k = B := e; have := HBE.out; omega))⟩
 rw [g3]
 exact HR2.out.keep HKS.out (fun k e => by have e9 : k = B := e; omega)
set_option maxHeartbeats 8000000 in
theorem ilOwner_any {w : World} {Q : Nat} {st : Rst} (h : RI w Q st) :
 Calls Tryz.prog 113 #[.pointer (some ⟨Q, 0, none⟩)] w (fun en w' => ∃ v, en = .returned v ∧ RdI (.list sOwner) Q w st [v] w') := by
 obtain ⟨i0, hi0, hz0, hz1, hz2⟩ : ∃ i0, Tryz.prog.info? 196 = some i0 ∧ i0.zero = some (.agg #[.int .i64 0, .slice none 0 0]) ∧ i0.size = 2 ∧ i0.bytes = 32 := by
  have h9 : (Tryz.prog.info? 196).map (fun i => (i.zero, i.size, i.bytes)) = some (some (.agg #[.int .i64 0, .slice none 0 0]), 2, 32) := by kernel_rfl
  cases hq : Tryz.prog.info? 196 with
  | none => rw [hq] at h9; cases h9
  | some q => rw [hq] at h9; simp at h9; exact ⟨q, rfl, h9⟩
 have HI0 := hid (And.intro hi0 (And.intro hz0 (And.intro hz1 hz2)))
 clear hi0 hz0 hz1 hz2
 have hQw := h.lt
 have CM := hid (imany9_any h)
 obtain ⟨n, hn⟩ : ∃ n, n = (lookS 5000 st.1 st.2).1 := ⟨_, rfl⟩
 obtain ⟨s1, hs1⟩ : ∃ s1 : Rst, s1 = (st.1.drop (lookS 5000 st.1 st.2).2.1, (lookS 5000 st.1 st.2).2.2) := ⟨_, rfl⟩
 have hn5 : n ≤ 5000 := by rw [hn]; exact lookS_most _ _ _
 have hns : s1.2 ≠ 0 → n = 0 := fun e => by rw [hs1] at e; rw [hn]; exact look_fault2 _ _ _ e
 unfold IMany at CM
 rw [← hn, ← hs1] at CM
 have HN := hid (And.intro hn (And.intro hs1 hns))
 clear hn hs1 hns h
 go_enter Tryz.func113, Tryz.ntmps113
 go_wp2_with (first | (go_at_call 99; refine CM.out.mono ?_; rintro en w1 ⟨rfl, hr, hk⟩; have HR := hid hr; have HK := hid hk; clear hr hk))
 go_loopw [3, 5] (fun x i wr => ∃ (k : Nat) (M : List (List Value × List UInt8)) (ao : Option Addr) (c : Nat) (sk : Rst), x = .slice ao k c ∧ i = .int .i64 (k : Int) ∧ ILp sOwner 196 Q w n s1 wr k M ao c sk) (fun _ i _ => n - (intOf i).toNat)
 case atStart => exact ⟨0, [], none, 0, s1, rfl, rfl, ILp.begin HR.out HK.out HN.out.2.2⟩
 case round =>
  obtain ⟨k, M, ao, c, sk, rfl, rfl, ht⟩ := hrel
  have hk := ht.le
  have HT := hid ht
  have CF := hid (ifault_any ht.ri)
  clear ht
  by_cases hlt : k < n
  · have hki : (k : Int) < (n : Int) := by omega
    by_cases hf : sk.2 = 0
    · rw [show decide (sk.2 ≠ 0) = false from by simp [hf]] at CF
      have HF := hid hf
      clear hf
      have CE := hid (istOwner_any HT.out.ri)
      go_wp2_with (first
       | (go_at_call 76; refine CF.out.mono ?_; rintro en wf ⟨rfl, rfl⟩)
       | (go_at_call 148; refine CE.out.mono ?_; rintro en w2 ⟨mc, rfl, bb, E, ob, r1, k1⟩; obtain ⟨vv0, vv1, bv0, bv1, rfl, _, ev0, ev1⟩ := Owner_cells (EncN.enc _ E); obtain ⟨y0, rfl⟩ := form_int ev0; obtain ⟨y1, j1, c1, rfl⟩ := form_data ev1; clear ev0 ev1; have HE := hid E; have HO := hid ob; have HR1 := hid r1; have HK1 := hid k1; have HB3 := hid ((Below.refl _ w2).alloc (Nat.le_refl _) (.cells #[(.int .i64 y0), (.slice y1 j1 c1)] 196)); have HOW := hid (own_old (own_keep (X := fun j => j = Q) HT.out.own k1 (fun j e e9 => by have e8 : j = Q := e9; have := (HT.out.own.lt j e).1; omega)) HB3.out); have HSZ := hid (show w.heap.size ≤ (w2.alloc (.cells #[(.int .i64 y0), (.slice y1 j1 c1)] 196)).heap.size from Nat.le_trans HT.out.keep.size (Nat.le_trans k1.size HB3.out.size)); clear E ob r1 k1)
       | (at_builtin; refine wp_app1 rfl _ _ 51 rfl w.heap.size 196 Tryz.underlying51 HI0.out.1 HI0.out.2.1 HI0.out.2.2.1 HI0.out.2.2.2 (by simp [Value.cells]) (by decide) _ k _ rfl HOW.out w2.heap.size [(.int .i64 y0), (.slice y1 j1 c1)] rfl (heap_alloc_new w2 (.cells #[(.int .i64 y0), (.slice y1 j1 c1)] 196)) rfl (fun u hu => by simp only [List.mem_cons, List.not_mem_nil, or_false] at hu; rcases hu with rfl | rfl <;> rfl) (by omega) (by decide) HSZ.out ?_; intro g cap w4 o4 g4 gg; have HX := hid (HT.out.next hQw hlt HF.out HE.out HO.out HR1.out HK1.out HB3.out o4 g4 gg); clear o4 g4 gg))
      go_roundw
      case rel => exact ⟨k + 1, _, _, _, _, rfl, by go_num, HX.out⟩
      case measure => simp [intOf]; omega
    · rw [show decide (sk.2 ≠ 0) = true from by simp [hf]] at CF
      have HF := hid hf
      clear hf
      go_wp2_with (first | (go_at_call 76; refine CF.out.mono ?_; rintro en wf ⟨rfl, rfl⟩))
      go_ret
      have hT := HT.out
      rw [HN.out.1, HN.out.2.1] at hT
      exact ⟨_, rfl, hT.done (.inr HF.out)⟩
  · have hki : ¬ (k : Int) < (n : Int) := by omega
    go_wp2_with fail
    go_ret
    have hkn : k = n := by omega
    have hT := HT.out
    rw [HN.out.1, HN.out.2.1] at hT
    exact ⟨_, rfl, hT.done (.inl (hkn.trans HN.out.1))⟩
set_option maxHeartbeats 8000000 in
theorem istRoutes_any {w : World} {Q : Nat} {st : Rst} (h : RI w Q st) :
 Calls Tryz.prog 46 #[.pointer (some ⟨Q, 0, none⟩)] w (fun en w' => ∃ cs, en = .returned (.agg cs.toArray) ∧ RdI sRoutes Q w st cs w') := by
 have hb : Below w.heap.size w (w.alloc (.cells #[(.int .i64 0), (.int .i64 0), (.slice none 0 0), (.int .i64 0), (.slice none 0 0)] 53)) := (Below.refl _ _).alloc (Nat.le_refl _) _
 have hz := heap_alloc_new w (.cells #[(.int .i64 0), (.int .i64 0), (.slice none 0 0), (.int .i64 0), (.slice none 0 0)] 53)
 have hQB := h.lt
 have HR0 := hid (h.keep (X := fun _ => False) (Keep.of_below hb) (fun _ e => e.elim))
 obtain ⟨B, hB⟩ : ∃ B, B = w.heap.size := ⟨_, rfl⟩
 rw [← hB] at hz hQB
 have HZ0 := hid hz
 have HBW := hid hb
 clear h hb hz
 go_enter Tryz.func46, Tryz.ntmps46
 go_upto_region 1 with fail
 generalize w.alloc (.cells #[(.int .i64 0), (.int .i64 0), (.slice none 0 0), (.int .i64 0), (.slice none 0 0)] 53) = w0 at *
 try rw [← hB]
 have HBE := hid hB
 clear hB
 have CQ := hid (iint9_any HR0.out)
 go_upto_region 2 with (first | (go_at_call 33; refine CQ.out.mono ?_; rintro en w1 ⟨v, rfl, bb0, E0, o0, r0, k0⟩; obtain ⟨y0, rfl⟩ := form_int (EncN.enc _ E0); have HE0 := hid E0; have HO0 := hid o0; have HRr := hid r0; have HKk := hid k0; clear E0 o0 r0 k0))
 have hb1 : Below w1.heap.size w1 (w1.alloc (.cells #[(.int .i64 y0), (.int .i64 0), (.slice none 0 0), (.int .i64 0), (.slice none 0 0)] 53)) := (Below.refl _ _).alloc (Nat.le_refl _) _
 have hp1 := heap_alloc_new w1 (.cells #[(.int .i64 y0), (.int .i64 0), (.slice none 0 0), (.int .i64 0), (.slice none 0 0)] 53)
 have hPz : B < w1.heap.size := Nat.lt_of_lt_of_le (lt_of_block HZ0.out) HKk.out.size
 have HE0 := hid (EncN.keep (X := fun _ => False) (Keep.of_below hb1) (fun _ _ e => e) _ (EncN.mono (N' := fun k => B < k ∧ k ≠ w1.heap.size ∧ k < w1.heap.size + 1) (fun k hk => ⟨Nat.lt_of_lt_of_le (lt_of_block HZ0.out) hk.1, by omega, by omega⟩) _ HE0.out))
 have HR1 := hid (HRr.out.keep (X := fun _ => False) (Keep.of_below hb1) (fun _ e => e.elim))
 have HK1 := hid (((Keep.of_below (X := fun k => k = Q) HBW.out).trans HKk.out).trans (Keep.of_below hb1))
 have HZ1 := hid ((hb1.block B hPz).trans ((HKk.out.block B (lt_of_block HZ0.out) (fun e => by have e9 : B = Q := e; omega)).trans HZ0.out))
 obtain ⟨P, hP⟩ : ∃ P, P = w1.heap.size := ⟨_, rfl⟩
 rw [← hP] at hp1 hPz HE0 ⊢
 have HP1 := hid hp1
 have hsz1 := lt_of_block hp1
 clear hb1 hp1 hP HRr HKk CQ HZ0 HR0
 generalize w1.alloc (.cells #[(.int .i64 y0), (.int .i64 0), (.slice none 0 0), (.int .i64 0), (.slice none 0 0)] 53) = u1 at *
 have HE0 : Hid (EncN (fun k => B < k ∧ k ≠ P ∧ k < u1.heap.size) u1 .int [(.int .i64 y0)] bb0) := hid (EncN.mono (fun k hk => ⟨hk.1, hk.2.1, by have := hk.2.2; omega⟩) _ HE0.out)
 clear hsz1
 have CQ := hid (iint9_any HR1.out)
 go_upto_region 3 with (first | (go_at_call 33; refine CQ.out.mono ?_; rintro en w2 ⟨v, rfl, bb1, E1, o1, r1, k1⟩; obtain ⟨y1, rfl⟩ := form_int (EncN.enc _ E1); have hPx := (k1.block P (lt_of_block HP1.out) (fun e => by have e9 : P = Q := e; omega)).trans HP1.out; obtain ⟨qq1, rr1⟩ := row_at hPx (i := 1) rfl; have HPx := hid hPx; clear hPx; have HE1 := hid E1; have HO1 := hid o1; have HRr := hid r1; have HKk := hid k1; clear E1 o1 r1 k1))
 have hs0 := HPx.out
 have hs1 := row_put hs0 1 (.int .i64 y1)
 have HP2 : Hid ((w2.setCell ⟨P, 1, none⟩ (.int .i64 y1)).heap[P]? = some (.cells #[(.int .i64 y0), (.int .i64 y1), (.slice none 0 0), (.int .i64 0), (.slice none 0 0)] 53 (0, 0))) := hs1
 have hks : Keep (fun k => k = P) w2 (w2.setCell ⟨P, 1, none⟩ (.int .i64 y1)) := (Keep.refl (fun k => k = P) _).trans (Keep.set (X := fun k => k = P) _ ⟨P, 1, none⟩ (.int .i64 y1) rfl)
 have HR2 := hid (HRr.out.keep hks (fun k e => by have e9 : k = P := e; omega))
 have HK2 := hid ((HK1.out.trans HKk.out).trans2 hks (fun k e => .inr (by have e9 : k = P := e; have := HBE.out; omega)))
 have hkk : Keep (fun k => k = Q ∨ k = P) u1 (w2.setCell ⟨P, 1, none⟩ (.int .i64 y1)) := (HKk.out.mono (fun k _ e => .inl e)).trans (hks.mono (fun k _ e => .inr e))
 have hzz := (hkk.block B (lt_of_block HZ1.out) (fun e => by have e9 : B = Q ∨ B = P := e; omega)).trans HZ1.out
 have HZ2 := hid hzz
 clear hzz
 have HE0 := hid (EncN.hop (Nat.le_of_lt hQB) hkk HE0.out)
 have HE1 := hid (EncN.mono (N' := fun k => B < k ∧ k ≠ P ∧ k < (w2.setCell ⟨P, 1, none⟩ (.int .i64 y1)).heap.size) (fun k hk => ⟨by have := lt_of_block HZ1.out; omega, by have := lt_of_block HP1.out; omega, Nat.lt_of_lt_of_le hk.2 hks.size⟩) _ (EncN.keep hks (fun k hk e => by have e9 : k = P := e; have := lt_of_block HP1.out; have := hk.1; omega) _ HE1.out))
 clear hs0 hs1 hks hkk HRr HKk HPx HP1 HR1 HK1 HZ1 CQ
 generalize w2.setCell ⟨P, 1, none⟩ (.int .i64 y1) = u2 at *
 have CQ := hid (ilOwner_any HR2.out)
 go_upto_region 4 with (first | (go_at_call 113; refine CQ.out.mono ?_; rintro en w3 ⟨v, rfl, bb2, E2, o2, r2, k2⟩; obtain ⟨y2, j2, c2, rfl⟩ := form_list (EncN.enc _ E2); have hPx := (k2.block P (lt_of_block HP2.out) (fun e => by have e9 : P = Q := e; omega)).trans HP2.out; obtain ⟨qq2, rr2⟩ := row_at hPx (i := 2) rfl; have HPx := hid hPx; clear hPx; have HE2 := hid E2; have HO2 := hid o2; have HRr := hid r2; have HKk := hid k2; clear E2 o2 r2 k2))
 have hs0 := HPx.out
 have hs1 := row_put hs0 2 (.slice y2 j2 c2)
 have HP3 : Hid ((w3.setCell ⟨P, 2, none⟩ (.slice y2 j2 c2)).heap[P]? = some (.cells #[(.int .i64 y0), (.int .i64 y1), (.slice y2 j2 c2), (.int .i64 0), (.slice none 0 0)] 53 (0, 0))) := hs1
 have hks : Keep (fun k => k = P) w3 (w3.setCell ⟨P, 2, none⟩ (.slice y2 j2 c2)) := (Keep.refl (fun k => k = P) _).trans (Keep.set (X := fun k => k = P) _ ⟨P, 2, none⟩ (.slice y2 j2 c2) rfl)
 have HR3 := hid (HRr.out.keep hks (fun k e => by have e9 : k = P := e; omega))
 have HK3 := hid ((HK2.out.trans HKk.out).trans2 hks (fun k e => .inr (by have e9 : k = P := e; have := HBE.out; omega)))
 have hkk : Keep (fun k => k = Q ∨ k = P) u2 (w3.setCell ⟨P, 2, none⟩ (.slice y2 j2 c2)) := (HKk.out.mono (fun k _ e => .inl e)).trans (hks.mono (fun k _ e => .inr e))
 have hzz := (hkk.block B (lt_of_block HZ2.out) (fun e => by have e9 : B = Q ∨ B = P := e; omega)).trans HZ2.out
 have HZ3 := hid hzz
 clear hzz
 have HE0 := hid (EncN.hop (Nat.le_of_lt hQB) hkk HE0.out)
 have HE1 := hid (EncN.hop (Nat.le_of_lt hQB) hkk HE1.out)
 have HE2 := hid (EncN.mono (N' := fun k => B < k ∧ k ≠ P ∧ k < (w3.setCell ⟨P, 2, none⟩ (.slice y2 j2 c2)).heap.size) (fun k hk => ⟨by have := lt_of_block HZ2.out; omega, by have := lt_of_block HP2.out; omega, Nat.lt_of_lt_of_le hk.2 hks.size⟩) _ (EncN.keep hks (fun k hk e => by have e9 : k = P := e; have := lt_of_block HP2.out; have := hk.1; omega) _ HE2.out))
 clear hs0 hs1 hks hkk HRr HKk HPx HP2 HR2 HK2 HZ2 CQ
 generalize w3.setCell ⟨P, 2, none⟩ (.slice y2 j2 c2) = u3 at *
 have CQ := hid (iint9_any HR3.out)
 go_upto_region 5 with (first | (go_at_call 33; refine CQ.out.mono ?_; rintro en w4 ⟨v, rfl, bb3, E3, o3, r3, k3⟩; obtain ⟨y3, rfl⟩ := form_int (EncN.enc _ E3); have hPx := (k3.block P (lt_of_block HP3.out) (fun e => by have e9 : P = Q := e; omega)).trans HP3.out; obtain ⟨qq3, rr3⟩ := row_at hPx (i := 3) rfl; have HPx := hid hPx; clear hPx; have HE3 := hid E3; have HO3 := hid o3; have HRr := hid r3; have HKk := hid k3; clear E3 o3 r3 k3))
 have hs0 := HPx.out
 have hs1 := row_put hs0 3 (.int .i64 y3)
 have HP4 : Hid ((w4.setCell ⟨P, 3, none⟩ (.int .i64 y3)).heap[P]? = some (.cells #[(.int .i64 y0), (.int .i64 y1), (.slice y2 j2 c2), (.int .i64 y3), (.slice none 0 0)] 53 (0, 0))) := hs1
 have hks : Keep (fun k => k = P) w4 (w4.setCell ⟨P, 3, none⟩ (.int .i64 y3)) := (Keep.refl (fun k => k = P) _).trans (Keep.set (X := fun k => k = P) _ ⟨P, 3, none⟩ (.int .i64 y3) rfl)
 have HR4 := hid (HRr.out.keep hks (fun k e => by have e9 : k = P := e; omega))
 have HK4 := hid ((HK3.out.trans HKk.out).trans2 hks (fun k e => .inr (by have e9 : k = P := e; have := HBE.out; omega)))
 have hkk : Keep (fun k => k = Q ∨ k = P) u3 (w4.setCell ⟨P, 3, none⟩ (.int .i64 y3)) := (HKk.out.mono (fun k _ e => .inl e)).trans (hks.mono (fun k _ e => .inr e))
 have hzz := (hkk.block B (lt_of_block HZ3.out) (fun e => by have e9 : B = Q ∨ B = P := e; omega)).trans HZ3.out
 have HZ4 := hid hzz
 clear hzz
 have HE0 := hid (EncN.hop (Nat.le_of_lt hQB) hkk HE0.out)
 have HE1 := hid (EncN.hop (Nat.le_of_lt hQB) hkk HE1.out)
 have HE2 := hid (EncN.hop (Nat.le_of_lt hQB) hkk HE2.out)
 have HE3 := hid (EncN.mono (N' := fun k => B < k ∧ k ≠ P ∧ k < (w4.setCell ⟨P, 3, none⟩ (.int .i64 y3)).heap.size) (fun k hk => ⟨by have := lt_of_block HZ3.out; omega, by have := lt_of_block HP3.out; omega, Nat.lt_of_lt_of_le hk.2 hks.size⟩) _ (EncN.keep hks (fun k hk e => by have e9 : k = P := e; have := lt_of_block HP3.out; have := hk.1; omega) _ HE3.out))
 clear hs0 hs1 hks hkk HRr HKk HPx HP3 HR3 HK3 HZ3 CQ
 generalize w4.setCell ⟨P, 3, none⟩ (.int .i64 y3) = u4 at *
 have CQ := hid (ibytes9_any HR4.out)
 go_upto_region 6 with (first | (go_at_call 29; refine CQ.out.mono ?_; rintro en w5 ⟨v, rfl, bb4, E4, o4, r4, k4⟩; obtain ⟨y4, j4, c4, rfl⟩ := form_data (EncN.enc _ E4); have hPx := (k4.block P (lt_of_block HP4.out) (fun e => by have e9 : P = Q := e; omega)).trans HP4.out; obtain ⟨qq4, rr4⟩ := row_at hPx (i := 4) rfl; have HPx := hid hPx; clear hPx; have HE4 := hid E4; have HO4 := hid o4; have HRr := hid r4; have HKk := hid k4; clear E4 o4 r4 k4))
 have hs0 := HPx.out
 have hs1 := row_put hs0 4 (.slice y4 j4 c4)
 have HP5 : Hid ((w5.setCell ⟨P, 4, none⟩ (.slice y4 j4 c4)).heap[P]? = some (.cells #[(.int .i64 y0), (.int .i64 y1), (.slice y2 j2 c2), (.int .i64 y3), (.slice y4 j4 c4)] 53 (0, 0))) := hs1
 have hks : Keep (fun k => k = P) w5 (w5.setCell ⟨P, 4, none⟩ (.slice y4 j4 c4)) := (Keep.refl (fun k => k = P) _).trans (Keep.set (X := fun k => k = P) _ ⟨P, 4, none⟩ (.slice y4 j4 c4) rfl)
 have HR5 := hid (HRr.out.keep hks (fun k e => by have e9 : k = P := e; omega))
 have HK5 := hid ((HK4.out.trans HKk.out).trans2 hks (fun k e => .inr (by have e9 : k = P := e; have := HBE.out; omega)))
 have hkk : Keep (fun k => k = Q ∨ k = P) u4 (w5.setCell ⟨P, 4, none⟩ (.slice y4 j4 c4)) := (HKk.out.mono (fun k _ e => .inl e)).trans (hks.mono (fun k _ e => .inr e))
 have hzz := (hkk.block B (lt_of_block HZ4.out) (fun e => by have e9 : B = Q ∨ B = P := e; omega)).trans HZ4.out
 have HZ5 := hid hzz
 clear hzz
 have HE0 := hid (EncN.hop (Nat.le_of_lt hQB) hkk HE0.out)
 have HE1 := hid (EncN.hop (Nat.le_of_lt hQB) hkk HE1.out)
 have HE2 := hid (EncN.hop (Nat.le_of_lt hQB) hkk HE2.out)
 have HE3 := hid (EncN.hop (Nat.le_of_lt hQB) hkk HE3.out)
 have HE4 := hid (EncN.mono (N' := fun k => B < k ∧ k ≠ P ∧ k < (w5.setCell ⟨P, 4, none⟩ (.slice y4 j4 c4)).heap.size) (fun k hk => ⟨by have := lt_of_block HZ4.out; omega, by have := lt_of_block HP4.out; omega, Nat.lt_of_lt_of_le hk.2 hks.size⟩) _ (EncN.keep hks (fun k hk e => by have e9 : k = P := e; have := lt_of_block HP4.out; have := hk.1; omega) _ HE4.out))
 clear hs0 hs1 hks hkk HRr HKk HPx HP4 HR4 HK4 HZ4 CQ
 generalize w5.setCell ⟨P, 4, none⟩ (.slice y4 j4 c4) = u5 at *
 have LD := cells_load (cs := [(.int .i64 y0), (.int .i64 y1), (.slice y2 j2 c2), (.int .i64 y3), (.slice y4 j4 c4)]) (fun i u hi => (row_at HP5.out hi).1) Tryz.underlying53 rfl (by kernel_rfl)
 have HLD := hid LD
 clear LD
 have HSF := hid (setRow_heap u5 B _ (#[(.int .i64 y0), (.int .i64 y1), (.slice y2 j2 c2), (.int .i64 y3), (.slice y4 j4 c4)] : Array Value) _ _ HZ5.out)
 have HKS := hid (setRow_keep u5 B (#[(.int .i64 y0), (.int .i64 y1), (.slice y2 j2 c2), (.int .i64 y3), (.slice y4 j4 c4)] : Array Value))
 have HZZ : Hid (u5.heap[B]? = some (.cells (#[(.int .i64 0), (.int .i64 0), (.slice none 0 0), (.int .i64 0), (.slice none 0 0)] : Array Value) 53 (0, 0))) := HZ5
 apply wp_region_lit
 refine Great.wpList_readTo rfl (some 19) rfl (.agg #[(.int .i64 y0), (.int .i64 y1), (.slice y2 j2 c2), (.int .i64 y3), (.slice y4 j4 c4)]) (exec_load rfl HLD.out) ?_
 simp only [Act.put, jA, jB, jC, jD, jE, jF]
 refine Go.wpList_store_rowTo rfl 53 _ _ rfl rfl B #[(.int .i64 y0), (.int .i64 y1), (.slice y2 j2 c2), (.int .i64 y3), (.slice y4 j4 c4)] rfl rfl 53 #[(.int .i64 0), (.int .i64 0), (.slice none 0 0), (.int .i64 0), (.slice none 0 0)] HZZ.out (by as_aux_lemma => kernel_rfl) rfl (by simp [Value.oneCell']) ?_
 generalize u5.setRow B #[(.int .i64 y0), (.int .i64 y1), (.slice y2 j2 c2), (.int .i64 y3), (.slice y4 j4 c4)] = uZ at *
 go_wp2_with fail
 refine bodyPost_ret (results_cell_row rfl _ _ B 53 _ (0, 0) _ rfl HSF.out Tryz.underlying53 rfl (by kernel_rfl)) rfl ?_
 have hfin : ∀ (s : Sh) (cs : List Value) (bs : List UInt8), EncN (fun k => B < k ∧ k ≠ P ∧ k < u5.heap.size) u5 s cs bs → EncN (fun k => w.heap.size ≤ k ∧ k < uZ.heap.size) uZ s cs bs := fun s cs bs h9 => EncN.mono (fun k hk => ⟨by have := HBE.out; have := hk.1; omega, Nat.lt_of_lt_of_le hk.2.2 HKS.out.size⟩) s (EncN.keep HKS.out (fun k hk e => by have e9 : k = B := e; have := hk.1; omega) s h9)
 have hF : FinI (fun k => w.heap.size ≤ k ∧ k < uZ.heap.size) uZ sRoutes st [(.int .i64 y0), (.int .i64 y1), (.slice y2 j2 c2), (.int .i64 y3), (.slice y4 j4 c4)] _ := FinI.cons (hfin _ _ _ HE0.out) HO0.out (FinI.cons (hfin _ _ _ HE1.out) HO1.out (FinI.cons (hfin _ _ _ HE2.out) HO2.out (FinI.cons (hfin _ _ _ HE3.out) HO3.out (FinI.cons (hfin _ _ _ HE4.out) HO4.out FinI.nil))))
 obtain ⟨b, g1, g2, g3⟩ := hF
 refine ⟨[(.int .i64 y0), (.int .i64 y1), (.slice y2 j2 c2), (.int .i64 y3), (.slice y4 j4 c4)], rfl, b, g1, g2, ?_, HK5.out.trans2 HKS.out (fun k e => .inr (by have e9 : k = B := e; have := HBE.out; omega))⟩
 rw [g3]
 exact HR5.out.keep HKS.out (fun k e => by have e9 : k = B := e; omega)
end Go.Proofs.YtmdgifmigikffaaGreat
namespace Go.Proofs.YtmdgifmigikffaaGreat
open Go.RowKit Go.Deep
set_option maxHeartbeats 8000000 in
theorem istCatalog_any {w : World} {Q : Nat} {st : Rst} (h : RI w Q st) :
 Calls Tryz.prog 45 #[.pointer (some ⟨Q, 0, none⟩)] w (fun en w' => ∃ cs, en = .returned (.agg cs.toArray) ∧ RdI sCatalog Q w st cs w') := by
 have hb : Below w.heap.size w (w.alloc (.cells #[(.int .i64 0), (.int .i64 0), (.slice none 0 0), (.slice none 0 0)] 50)) := (Below.refl _ _).alloc (Nat.le_refl _) _
 have hz := heap_alloc_new w (.cells #[(.int .i64 0), (.int .i64 0), (.slice none 0 0), (.slice none 0 0)] 50)
 have hQB := h.lt
 have HR0 := hid (h.keep (X := fun _ => False) (Keep.of_below hb) (fun _ e => e.elim))
 obtain ⟨B, hB⟩ : ∃ B, B = w.heap.size := ⟨_, rfl⟩
 rw [← hB] at hz hQB
 have HZ0 := hid hz
 have HBW := hid hb
 clear h hb hz
 go_enter Tryz.func45, Tryz.ntmps45
 go_upto_region 1 with fail
 generalize w.alloc (.cells #[(.int .i64 0), (.int .i64 0), (.slice none 0 0), (.slice none 0 0)] 50) = w0 at *
 try rw [← hB]
 have HBE := hid hB
 clear hB
 have CQ := hid (iint9_any HR0.out)
 go_upto_region 2 with (first | (go_at_call 33; refine CQ.out.mono ?_; rintro en w1 ⟨v, rfl, bb0, E0, o0, r0, k0⟩; obtain ⟨y0, rfl⟩ := form_int (EncN.enc _ E0); have HE0 := hid E0; have HO0 := hid o0; have HRr := hid r0; have HKk := hid k0; clear E0 o0 r0 k0))
 have hb1 : Below w1.heap.size w1 (w1.alloc (.cells #[(.int .i64 y0), (.int .i64 0), (.slice none 0 0), (.slice none 0 0)] 50)) := (Below.refl _ _).alloc (Nat.le_refl _) _
 have hp1 := heap_alloc_new w1 (.cells #[(.int .i64 y0), (.int .i64 0), (.slice none 0 0), (.slice none 0 0)] 50)
 have hPz : B < w1.heap.size := Nat.lt_of_lt_of_le (lt_of_block HZ0.out) HKk.out.size
 have HE0 := hid (EncN.keep (X := fun _ => False) (Keep.of_below hb1) (fun _ _ e => e) _ (EncN.mono (N' := fun k => B < k ∧ k ≠ w1.heap.size ∧ k < w1.heap.size + 1) (fun k hk => ⟨Nat.lt_of_lt_of_le (lt_of_block HZ0.out) hk.1, by omega, by omega⟩) _ HE0.out))
 have HR1 := hid (HRr.out.keep (X := fun _ => False) (Keep.of_below hb1) (fun _ e => e.elim))
 have HK1 := hid (((Keep.of_below (X := fun k => k = Q) HBW.out).trans HKk.out).trans (Keep.of_below hb1))
 have HZ1 := hid ((hb1.block B hPz).trans ((HKk.out.block B (lt_of_block HZ0.out) (fun e => by have e9 : B = Q := e; omega)).trans HZ0.out))
 obtain ⟨P, hP⟩ : ∃ P, P = w1.heap.size := ⟨_, rfl⟩
 rw [← hP] at hp1 hPz HE0 ⊢
 have HP1 := hid hp1
 have hsz1 := lt_of_block hp1
 clear hb1 hp1 hP HRr HKk CQ HZ0 HR0
 generalize w1.alloc (.cells #[(.int .i64 y0), (.int .i64 0), (.slice none 0 0), (.slice none 0 0)] 50) = u1 at *
 have HE0 : Hid (EncN (fun k => B < k ∧ k ≠ P ∧ k < u1.heap.size) u1 .int [(.int .i64 y0)] bb0) := hid (EncN.mono (fun k hk => ⟨hk.1, hk.2.1, by have := hk.2.2; omega⟩) _ HE0.out)
 clear hsz1
 have CQ := hid (iint9_any HR1.out)
 go_upto_region 3 with (first | (go_at_call 33; refine CQ.out.mono ?_; rintro en w2 ⟨v, rfl, bb1, E1, o1, r1, k1⟩; obtain ⟨y1, rfl⟩ := form_int (EncN.enc _ E1); have hPx := (k1.block P (lt_of_block HP1.out) (fun e => by have e9 : P = Q := e; omega)).trans HP1.out; obtain ⟨qq1, rr1⟩ := row_at hPx (i := 1) rfl; have HPx := hid hPx; clear hPx; have HE1 := hid E1; have HO1 := hid o1; have HRr := hid r1; have HKk := hid k1; clear E1 o1 r1 k1))
 have hs0 := HPx.out
 have hs1 := row_put hs0 1 (.int .i64 y1)
 have HP2 : Hid ((w2.setCell ⟨P, 1, none⟩ (.int .i64 y1)).heap[P]? = some (.cells #[(.int .i64 y0), (.int .i64 y1), (.slice none 0 0), (.slice none 0 0)] 50 (0, 0))) := hs1
 have hks : Keep (fun k => k = P) w2 (w2.setCell ⟨P, 1, none⟩ (.int .i64 y1)) := (Keep.refl (fun k => k = P) _).trans (Keep.set (X := fun k => k = P) _ ⟨P, 1, none⟩ (.int .i64 y1) rfl)
 have HR2 := hid (HRr.out.keep hks (fun k e => by have e9 : k = P := e; omega))
 have HK2 := hid ((HK1.out.trans HKk.out).trans2 hks (fun k e => .inr (by have e9 : k = P := e; have := HBE.out; omega)))
 have hkk : Keep (fun k => k = Q ∨ k = P) u1 (w2.setCell ⟨P, 1, none⟩ (.int .i64 y1)) := (HKk.out.mono (fun k _ e => .inl e)).trans (hks.mono (fun k _ e => .inr e))
 have hzz := (hkk.block B (lt_of_block HZ1.out) (fun e => by have e9 : B = Q ∨ B = P := e; omega)).trans HZ1.out
 have HZ2 := hid hzz
 clear hzz
 have HE0 := hid (EncN.hop (Nat.le_of_lt hQB) hkk HE0.out)
 have HE1 := hid (EncN.mono (N' := fun k => B < k ∧ k ≠ P ∧ k < (w2.setCell ⟨P, 1, none⟩ (.int .i64 y1)).heap.size) (fun k hk => ⟨by have := lt_of_block HZ1.out; omega, by have := lt_of_block HP1.out; omega, Nat.lt_of_lt_of_le hk.2 hks.size⟩) _ (EncN.keep hks (fun k hk e => by have e9 : k = P := e; have := lt_of_block HP1.out; have := hk.1; omega) _ HE1.out))
 clear hs0 hs1 hks hkk HRr HKk HPx HP1 HR1 HK1 HZ1 CQ
 generalize w2.setCell ⟨P, 1, none⟩ (.int .i64 y1) = u2 at *
 have CQ := hid (ilTable_any HR2.out)
 go_upto_region 4 with (first | (go_at_call 111; refine CQ.out.mono ?_; rintro en w3 ⟨v, rfl, bb2, E2, o2, r2, k2⟩; obtain ⟨y2, j2, c2, rfl⟩ := form_list (EncN.enc _ E2); have hPx := (k2.block P (lt_of_block HP2.out) (fun e => by have e9 : P = Q := e; omega)).trans HP2.out; obtain ⟨qq2, rr2⟩ := row_at hPx (i := 2) rfl; have HPx := hid hPx; clear hPx; have HE2 := hid E2; have HO2 := hid o2; have HRr := hid r2; have HKk := hid k2; clear E2 o2 r2 k2))
 have hs0 := HPx.out
 have hs1 := row_put hs0 2 (.slice y2 j2 c2)
 have HP3 : Hid ((w3.setCell ⟨P, 2, none⟩ (.slice y2 j2 c2)).heap[P]? = some (.cells #[(.int .i64 y0), (.int .i64 y1), (.slice y2 j2 c2), (.slice none 0 0)] 50 (0, 0))) := hs1
 have hks : Keep (fun k => k = P) w3 (w3.setCell ⟨P, 2, none⟩ (.slice y2 j2 c2)) := (Keep.refl (fun k => k = P) _).trans (Keep.set (X := fun k => k = P) _ ⟨P, 2, none⟩ (.slice y2 j2 c2) rfl)
 have HR3 := hid (HRr.out.keep hks (fun k e => by have e9 : k = P := e; omega))
 have HK3 := hid ((HK2.out.trans HKk.out).trans2 hks (fun k e => .inr (by have e9 : k = P := e; have := HBE.out; omega)))
 have hkk : Keep (fun k => k = Q ∨ k = P) u2 (w3.setCell ⟨P, 2, none⟩ (.slice y2 j2 c2)) := (HKk.out.mono (fun k _ e => .inl e)).trans (hks.mono (fun k _ e => .inr e))
 have hzz := (hkk.block B (lt_of_block HZ2.out) (fun e => by have e9 : B = Q ∨ B = P := e; omega)).trans HZ2.out
 have HZ3 := hid hzz
 clear hzz
 have HE0 := hid (EncN.hop (Nat.le_of_lt hQB) hkk HE0.out)
 have HE1 := hid (EncN.hop (Nat.le_of_lt hQB) hkk HE1.out)
 have HE2 := hid (EncN.mono (N' := fun k => B < k ∧ k ≠ P ∧ k < (w3.setCell ⟨P, 2, none⟩ (.slice y2 j2 c2)).heap.size) (fun k hk => ⟨by have := lt_of_block HZ2.out; omega, by have := lt_of_block HP2.out; omega, Nat.lt_of_lt_of_le hk.2 hks.size⟩) _ (EncN.keep hks (fun k hk e => by have e9 : k = P := e; have := lt_of_block HP2.out; have := hk.1; omega) _ HE2.out))
 clear hs0 hs1 hks hkk HRr HKk HPx HP2 HR2 HK2 HZ2 CQ
 generalize w3.setCell ⟨P, 2, none⟩ (.slice y2 j2 c2) = u3 at *
 have CQ := hid (ilIndex_any HR3.out)
 go_upto_region 5 with (first | (go_at_call 112; refine CQ.out.mono ?_; rintro en w4 ⟨v, rfl, bb3, E3, o3, r3, k3⟩; obtain ⟨y3, j3, c3, rfl⟩ := form_list (EncN.enc _ E3); have hPx := (k3.block P (lt_of_block HP3.out) (fun e => by have e9 : P = Q := e; omega)).trans HP3.out; obtain ⟨qq3, rr3⟩ := row_at hPx (i := 3) rfl; have HPx := hid hPx; clear hPx; have HE3 := hid E3; have HO3 := hid o3; have HRr := hid r3; have HKk := hid k3; clear E3 o3 r3 k3))
 have hs0 := HPx.out
 have hs1 := row_put hs0 3 (.slice y3 j3 c3)
 have HP4 : Hid ((w4.setCell ⟨P, 3, none⟩ (.slice y3 j3 c3)).heap[P]? = some (.cells #[(.int .i64 y0), (.int .i64 y1), (.slice y2 j2 c2), (.slice y3 j3 c3)] 50 (0, 0))) := hs1
 have hks : Keep (fun k => k = P) w4 (w4.setCell ⟨P, 3, none⟩ (.slice y3 j3 c3)) := (Keep.refl (fun k => k = P) _).trans (Keep.set (X := fun k => k = P) _ ⟨P, 3, none⟩ (.slice y3 j3 c3) rfl)
 have HR4 := hid (HRr.out.keep hks (fun k e => by have e9 : k = P := e; omega))
 have HK4 := hid ((HK3.out.trans HKk.out).trans2 hks (fun k e => .inr (by have e9 : k = P := e; have := HBE.out; omega)))
 have hkk : Keep (fun k => k = Q ∨ k = P) u3 (w4.setCell ⟨P, 3, none⟩ (.slice y3 j3 c3)) := (HKk.out.mono (fun k _ e => .inl e)).trans (hks.mono (fun k _ e => .inr e))
 have hzz := (hkk.block B (lt_of_block HZ3.out) (fun e => by have e9 : B = Q ∨ B = P := e; omega)).trans HZ3.out
 have HZ4 := hid hzz
 clear hzz
 have HE0 := hid (EncN.hop (Nat.le_of_lt hQB) hkk HE0.out)
 have HE1 := hid (EncN.hop (Nat.le_of_lt hQB) hkk HE1.out)
 have HE2 := hid (EncN.hop (Nat.le_of_lt hQB) hkk HE2.out)
 have HE3 := hid (EncN.mono (N' := fun k => B < k ∧ k ≠ P ∧ k < (w4.setCell ⟨P, 3, none⟩ (.slice y3 j3 c3)).heap.size) (fun k hk => ⟨by have := lt_of_block HZ3.out; omega, by have := lt_of_block HP3.out; omega, Nat.lt_of_lt_of_le hk.2 hks.size⟩) _ (EncN.keep hks (fun k hk e => by have e9 : k = P := e; have := lt_of_block HP3.out; have := hk.1; omega) _ HE3.out))
 clear hs0 hs1 hks hkk HRr HKk HPx HP3 HR3 HK3 HZ3 CQ
 generalize w4.setCell ⟨P, 3, none⟩ (.slice y3 j3 c3) = u4 at *
 have LD := cells_load (cs := [(.int .i64 y0), (.int .i64 y1), (.slice y2 j2 c2), (.slice y3 j3 c3)]) (fun i u hi => (row_at HP4.out hi).1) Tryz.underlying50 rfl (by kernel_rfl)
 have HLD := hid LD
 clear LD
 have HSF := hid (setRow_heap u4 B _ (#[(.int .i64 y0), (.int .i64 y1), (.slice y2 j2 c2), (.slice y3 j3 c3)] : Array Value) _ _ HZ4.out)
 have HKS := hid (setRow_keep u4 B (#[(.int .i64 y0), (.int .i64 y1), (.slice y2 j2 c2), (.slice y3 j3 c3)] : Array Value))
 have HZZ : Hid (u4.heap[B]? = some (.cells (#[(.int .i64 0), (.int .i64 0), (.slice none 0 0), (.slice none 0 0)] : Array Value) 50 (0, 0))) := HZ4
 apply wp_region_lit
 refine Great.wpList_readTo rfl (some 16) rfl (.agg #[(.int .i64 y0), (.int .i64 y1), (.slice y2 j2 c2), (.slice y3 j3 c3)]) (exec_load rfl HLD.out) ?_
 simp only [Act.put, jA, jB, jC, jD, jE, jF]
 refine Go.wpList_store_rowTo rfl 50 _ _ rfl rfl B #[(.int .i64 y0), (.int .i64 y1), (.slice y2 j2 c2), (.slice y3 j3 c3)] rfl rfl 50 #[(.int .i64 0), (.int .i64 0), (.slice none 0 0), (.slice none 0 0)] HZZ.out (by as_aux_lemma => kernel_rfl) rfl (by simp [Value.oneCell']) ?_
 generalize u4.setRow B #[(.int .i64 y0), (.int .i64 y1), (.slice y2 j2 c2), (.slice y3 j3 c3)] = uZ at *
 go_wp2_with fail
 refine bodyPost_ret (results_cell_row rfl _ _ B 50 _ (0, 0) _ rfl HSF.out Tryz.underlying50 rfl (by kernel_rfl)) rfl ?_
 have hfin : ∀ (s : Sh) (cs : List Value) (bs : List UInt8), EncN (fun k => B < k ∧ k ≠ P ∧ k < u4.heap.size) u4 s cs bs → EncN (fun k => w.heap.size ≤ k ∧ k < uZ.heap.size) uZ s cs bs := fun s cs bs h9 => EncN.mono (fun k hk => ⟨by have := HBE.out; have := hk.1; omega, Nat.lt_of_lt_of_le hk.2.2 HKS.out.size⟩) s (EncN.keep HKS.out (fun k hk e => by have e9 : k = B := e; have := hk.1; omega) s h9)
 have hF : FinI (fun k => w.heap.size ≤ k ∧ k < uZ.heap.size) uZ sCatalog st [(.int .i64 y0), (.int .i64 y1), (.slice y2 j2 c2), (.slice y3 j3 c3)] _ := FinI.cons (hfin _ _ _ HE0.out) HO0.out (FinI.cons (hfin _ _ _ HE1.out) HO1.out (FinI.cons (hfin _ _ _ HE2.out) HO2.out (FinI.cons (hfin _ _ _ HE3.out) HO3.out FinI.nil)))
 obtain ⟨b, g1, g2, g3⟩ := hF
 refine ⟨[(.int .i64 y0), (.int .i64 y1), (.slice y2 j2 c2), (.slice y3 j3 c3)], rfl, b, g1, g2, ?_, HK4.out.trans2 HKS.out (fun k e => .inr (by have e9 : k = B := e; have := HBE.out; omega))⟩
 rw [g3]
 exact HR4.out.keep HKS.out (fun k e => by have e9 : k = B := e; omega)
end Go.Proofs.YtmdgifmigikffaaGreat
namespace Go.Proofs.YtmdgifmigikffaaGreat
open Go.RowKit Go.Deep
set_option maxHeartbeats 8000000 in
theorem itkReply_any {w : World} {x : Value} {l : List UInt8} (hx : Rd w x l) (hl : l.length ≤ 1000000) :
 Calls Tryz.prog 11 #[x] w (TkR sReply zReply w l) := by
 have hb : Below w.heap.size w (w.alloc (.cells #[(.int .i64 0), (.int .u64 0), (.int .i64 0), (.bool false), (.slice none 0 0), (.slice none 0 0), (.int .i64 0), (.int .i64 0), (.slice none 0 0), (.slice none 0 0), (.int .i64 0), (.int .i64 0), (.slice none 0 0), (.int .i64 0), (.slice none 0 0)] 55)) := (Below.refl _ _).alloc (Nat.le_refl _) _
 have hz := heap_alloc_new w (.cells #[(.int .i64 0), (.int .u64 0), (.int .i64 0), (.bool false), (.slice none 0 0), (.slice none 0 0), (.int .i64 0), (.int .i64 0), (.slice none 0 0), (.slice none 0 0), (.int .i64 0), (.int .i64 0), (.slice none 0 0), (.int .i64 0), (.slice none 0 0)] 55)
 have hx0 := hx.old hb
 obtain ⟨B, hB⟩ : ∃ B, B = w.heap.size := ⟨_, rfl⟩
 rw [← hB] at hz
 have HL := hid hl
 clear hx hl
 go_enter Tryz.func11, Tryz.ntmps11
 go_upto_region 1 with fail
 generalize w.alloc (.cells #[(.int .i64 0), (.int .u64 0), (.int .i64 0), (.bool false), (.slice none 0 0), (.slice none 0 0), (.int .i64 0), (.int .i64 0), (.slice none 0 0), (.slice none 0 0), (.int .i64 0), (.int .i64 0), (.slice none 0 0), (.int .i64 0), (.slice none 0 0)] 55) = wz at *
 try rw [← hB]
 have HBE := hid hB
 clear hB
 have CO := hid (iopen_any hx0 HL.out)
 have HZz := hid hz
 have HBz := hid hb
 clear hx0 hz hb
 go_upto_region 2 with (first | (go_at_call 27; refine CO.out.mono ?_; rintro en w0 ⟨Q, rfl, hQ, hR, hbo⟩; have HQ := hid hQ; have HR0 := hid hR; have HBO := hid hbo; clear hQ hR hbo))
 have hlz := lt_of_block HZz.out
 have hQB : B < Q := Nat.lt_of_lt_of_le hlz HQ.out
 have HZ0 := hid ((HBO.out.block B hlz).trans HZz.out)
 have HBW : Hid (Below w.heap.size w w0) := hid (HBz.out.trans (HBO.out.mono HBz.out.size))
 have HQs := hid (show w0.heap.size ≤ w0.heap.size from Nat.le_refl _)
 clear CO HZz HBz HBO HQ hlz
 have CQ := hid (iint9_any HR0.out)
 go_upto_region 3 with (first | (go_at_call 33; refine CQ.out.mono ?_; rintro en w1 ⟨v, rfl, bb0, E0, o0, r0, k0⟩; obtain ⟨y0, rfl⟩ := form_int (EncN.enc _ E0); have HE0 := hid E0; have HO0 := hid o0; have HRr := hid r0; have HKk := hid k0; clear E0 o0 r0 k0))
 have hb1 : Below w1.heap.size w1 (w1.alloc (.cells #[(.int .i64 y0), (.int .u64 0), (.int .i64 0), (.bool false), (.slice none 0 0), (.slice none 0 0), (.int .i64 0), (.int .i64 0), (.slice none 0 0), (.slice none 0 0), (.int .i64 0), (.int .i64 0), (.slice none 0 0), (.int .i64 0), (.slice none 0 0)] 55)) := (Below.refl _ _).alloc (Nat.le_refl _) _
 have hp1 := heap_alloc_new w1 (.cells #[(.int .i64 y0), (.int .u64 0), (.int .i64 0), (.bool false), (.slice none 0 0), (.slice none 0 0), (.int .i64 0), (.int .i64 0), (.slice none 0 0), (.slice none 0 0), (.int .i64 0), (.int .i64 0), (.slice none 0 0), (.int .i64 0), (.slice none 0 0)] 55)
 have hPz : B < w1.heap.size := Nat.lt_of_lt_of_le (lt_of_block HZ0.out) HKk.out.size
 have HE0 := hid (EncN.keep (X := fun _ => False) (Keep.of_below hb1) (fun _ _ e => e) _ (EncN.mono (N' := fun k => Q < k ∧ k ≠ w1.heap.size ∧ k < w1.heap.size + 1) (fun k hk => ⟨Nat.lt_of_lt_of_le (HR0.out.lt) hk.1, by omega, by omega⟩) _ HE0.out))
 have HR1 := hid (HRr.out.keep (X := fun _ => False) (Keep.of_below hb1) (fun _ e => e.elim))
 have HK1 := hid (((Keep.of_below (X := fun k => k = Q) HBW.out).trans HKk.out).trans (Keep.of_below hb1))
 have HZ1 := hid ((hb1.block B hPz).trans ((HKk.out.block B (lt_of_block HZ0.out) (fun e => by have e9 : B = Q := e; omega)).trans HZ0.out))
 have hQP : Q < w1.heap.size := Nat.lt_of_lt_of_le HR0.out.lt HKk.out.size
 obtain ⟨P, hP⟩ : ∃ P, P = w1.heap.size := ⟨_, rfl⟩
 rw [← hP] at hp1 hPz HE0 hQP ⊢
 have HP1 := hid hp1
 have hsz1 := lt_of_block hp1
 clear hb1 hp1 hP HRr HKk CQ HZ0 HR0
 generalize w1.alloc (.cells #[(.int .i64 y0), (.int .u64 0), (.int .i64 0), (.bool false), (.slice none 0 0), (.slice none 0 0), (.int .i64 0), (.int .i64 0), (.slice none 0 0), (.slice none 0 0), (.int .i64 0), (.int .i64 0), (.slice none 0 0), (.int .i64 0), (.slice none 0 0)] 55) = u1 at *
 have HE0 : Hid (EncN (fun k => Q < k ∧ k ≠ P ∧ k < u1.heap.size) u1 .int [(.int .i64 y0)] bb0) := hid (EncN.mono (fun k hk => ⟨hk.1, hk.2.1, by have := hk.2.2; omega⟩) _ HE0.out)
 clear hsz1
 have CQ := hid (inum9_any HR1.out)
 go_upto_region 4 with (first | (go_at_call 28; refine CQ.out.mono ?_; rintro en w2 ⟨v, rfl, bb1, E1, o1, r1, k1⟩; obtain ⟨y1, rfl⟩ := form_num (EncN.enc _ E1); have hPx := (k1.block P (lt_of_block HP1.out) (fun e => by have e9 : P = Q := e; omega)).trans HP1.out; obtain ⟨qq1, rr1⟩ := row_at hPx (i := 1) rfl; have HPx := hid hPx; clear hPx; have HE1 := hid E1; have HO1 := hid o1; have HRr := hid r1; have HKk := hid k1; clear E1 o1 r1 k1))
 have hs0 := HPx.out
 have hs1 := row_put hs0 1 (.int .u64 (y1 : Int))
 have HP2 : Hid ((w2.setCell ⟨P, 1, none⟩ (.int .u64 (y1 : Int))).heap[P]? = some (.cells #[(.int .i64 y0), (.int .u64 (y1 : Int)), (.int .i64 0), (.bool false), (.slice none 0 0), (.slice none 0 0), (.int .i64 0), (.int .i64 0), (.slice none 0 0), (.slice none 0 0), (.int .i64 0), (.int .i64 0), (.slice none 0 0), (.int .i64 0), (.slice none 0 0)] 55 (0, 0))) := hs1
 have hks : Keep (fun k => k = P) w2 (w2.setCell ⟨P, 1, none⟩ (.int .u64 (y1 : Int))) := (Keep.refl (fun k => k = P) _).trans (Keep.set (X := fun k => k = P) _ ⟨P, 1, none⟩ (.int .u64 (y1 : Int)) rfl)
 have HR2 := hid (HRr.out.keep hks (fun k e => by have e9 : k = P := e; omega))
 have HK2 := hid ((HK1.out.trans HKk.out).trans2 hks (fun k e => .inr (by have e9 : k = P := e; have := HBE.out; omega)))
 have hkk : Keep (fun k => k = Q ∨ k = P) u1 (w2.setCell ⟨P, 1, none⟩ (.int .u64 (y1 : Int))) := (HKk.out.mono (fun k _ e => .inl e)).trans (hks.mono (fun k _ e => .inr e))
 have hzz := (hkk.block B (lt_of_block HZ1.out) (fun e => by have e9 : B = Q ∨ B = P := e; omega)).trans HZ1.out
 have HZ2 := hid hzz
 clear hzz
 have HE0 := hid (EncN.hop (Nat.le_refl _) hkk HE0.out)
 have HE1 := hid (EncN.mono (N' := fun k => Q < k ∧ k ≠ P ∧ k < (w2.setCell ⟨P, 1, none⟩ (.int .u64 (y1 : Int))).heap.size) (fun k hk => ⟨by have := hk.1; have := HR1.out.lt; omega, by have := lt_of_block HP1.out; omega, Nat.lt_of_lt_of_le hk.2 hks.size⟩) _ (EncN.keep hks (fun k hk e => by have e9 : k = P := e; have := lt_of_block HP1.out; have := hk.1; omega) _ HE1.out))
 clear hs0 hs1 hks hkk HRr HKk HPx HP1 HR1 HK1 HZ1 CQ
 generalize w2.setCell ⟨P, 1, none⟩ (.int .u64 (y1 : Int)) = u2 at *
 have CQ := hid (iint9_any HR2.out)
 go_upto_region 5 with (first | (go_at_call 33; refine CQ.out.mono ?_; rintro en w3 ⟨v, rfl, bb2, E2, o2, r2, k2⟩; obtain ⟨y2, rfl⟩ := form_int (EncN.enc _ E2); have hPx := (k2.block P (lt_of_block HP2.out) (fun e => by have e9 : P = Q := e; omega)).trans HP2.out; obtain ⟨qq2, rr2⟩ := row_at hPx (i := 2) rfl; have HPx := hid hPx; clear hPx; have HE2 := hid E2; have HO2 := hid o2; have HRr := hid r2; have HKk := hid k2; clear E2 o2 r2 k2))
 have hs0 := HPx.out
 have hs1 := row_put hs0 2 (.int .i64 y2)
 have HP3 : Hid ((w3.setCell ⟨P, 2, none⟩ (.int .i64 y2)).heap[P]? = some (.cells #[(.int .i64 y0), (.int .u64 (y1 : Int)), (.int .i64 y2), (.bool false), (.slice none 0 0), (.slice none 0 0), (.int .i64 0), (.int .i64 0), (.slice none 0 0), (.slice none 0 0), (.int .i64 0), (.int .i64 0), (.slice none 0 0), (.int .i64 0), (.slice none 0 0)] 55 (0, 0))) := hs1
 have hks : Keep (fun k => k = P) w3 (w3.setCell ⟨P, 2, none⟩ (.int .i64 y2)) := (Keep.refl (fun k => k = P) _).trans (Keep.set (X := fun k => k = P) _ ⟨P, 2, none⟩ (.int .i64 y2) rfl)
 have HR3 := hid (HRr.out.keep hks (fun k e => by have e9 : k = P := e; omega))
 have HK3 := hid ((HK2.out.trans HKk.out).trans2 hks (fun k e => .inr (by have e9 : k = P := e; have := HBE.out; omega)))
 have hkk : Keep (fun k => k = Q ∨ k = P) u2 (w3.setCell ⟨P, 2, none⟩ (.int .i64 y2)) := (HKk.out.mono (fun k _ e => .inl e)).trans (hks.mono (fun k _ e => .inr e))
 have hzz := (hkk.block B (lt_of_block HZ2.out) (fun e => by have e9 : B = Q ∨ B = P := e; omega)).trans HZ2.out
 have HZ3 := hid hzz
 clear hzz
 have HE0 := hid (EncN.hop (Nat.le_refl _) hkk HE0.out)
 have HE1 := hid (EncN.hop (Nat.le_refl _) hkk HE1.out)
 have HE2 := hid (EncN.mono (N' := fun k => Q < k ∧ k ≠ P ∧ k < (w3.setCell ⟨P, 2, none⟩ (.int .i64 y2)).heap.size) (fun k hk => ⟨by have := hk.1; have := HR2.out.lt; omega, by have := lt_of_block HP2.out; omega, Nat.lt_of_lt_of_le hk.2 hks.size⟩) _ (EncN.keep hks (fun k hk e => by have e9 : k = P := e; have := lt_of_block HP2.out; have := hk.1; omega) _ HE2.out))
 clear hs0 hs1 hks hkk HRr HKk HPx HP2 HR2 HK2 HZ2 CQ
 generalize w3.setCell ⟨P, 2, none⟩ (.int .i64 y2) = u3 at *
 have CQ := hid (ibool9_any HR3.out)
 go_upto_region 6 with (first | (go_at_call 34; refine CQ.out.mono ?_; rintro en w4 ⟨v, rfl, bb3, E3, o3, r3, k3⟩; obtain ⟨y3, rfl⟩ := form_bool (EncN.enc _ E3); have hPx := (k3.block P (lt_of_block HP3.out) (fun e => by have e9 : P = Q := e; omega)).trans HP3.out; obtain ⟨qq3, rr3⟩ := row_at hPx (i := 3) rfl; have HPx := hid hPx; clear hPx; have HE3 := hid E3; have HO3 := hid o3; have HRr := hid r3; have HKk := hid k3; clear E3 o3 r3 k3))
 have hs0 := HPx.out
 have hs1 := row_put hs0 3 (.bool y3)
 have HP4 : Hid ((w4.setCell ⟨P, 3, none⟩ (.bool y3)).heap[P]? = some (.cells #[(.int .i64 y0), (.int .u64 (y1 : Int)), (.int .i64 y2), (.bool y3), (.slice none 0 0), (.slice none 0 0), (.int .i64 0), (.int .i64 0), (.slice none 0 0), (.slice none 0 0), (.int .i64 0), (.int .i64 0), (.slice none 0 0), (.int .i64 0), (.slice none 0 0)] 55 (0, 0))) := hs1
 have hks : Keep (fun k => k = P) w4 (w4.setCell ⟨P, 3, none⟩ (.bool y3)) := (Keep.refl (fun k => k = P) _).trans (Keep.set (X := fun k => k = P) _ ⟨P, 3, none⟩ (.bool y3) rfl)
 have HR4 := hid (HRr.out.keep hks (fun k e => by have e9 : k = P := e; omega))
 have HK4 := hid ((HK3.out.trans HKk.out).trans2 hks (fun k e => .inr (by have e9 : k = P := e; have := HBE.out; omega)))
 have hkk : Keep (fun k => k = Q ∨ k = P) u3 (w4.setCell ⟨P, 3, none⟩ (.bool y3)) := (HKk.out.mono (fun k _ e => .inl e)).trans (hks.mono (fun k _ e => .inr e))
 have hzz := (hkk.block B (lt_of_block HZ3.out) (fun e => by have e9 : B = Q ∨ B = P := e; omega)).trans HZ3.out
 have HZ4 := hid hzz
 clear hzz
 have HE0 := hid (EncN.hop (Nat.le_refl _) hkk HE0.out)
 have HE1 := hid (EncN.hop (Nat.le_refl _) hkk HE1.out)
 have HE2 := hid (EncN.hop (Nat.le_refl _) hkk HE2.out)
 have HE3 := hid (EncN.mono (N' := fun k => Q < k ∧ k ≠ P ∧ k < (w4.setCell ⟨P, 3, none⟩ (.bool y3)).heap.size) (fun k hk => ⟨by have := hk.1; have := HR3.out.lt; omega, by have := lt_of_block HP3.out; omega, Nat.lt_of_lt_of_le hk.2 hks.size⟩) _ (EncN.keep hks (fun k hk e => by have e9 : k = P := e; have := lt_of_block HP3.out; have := hk.1; omega) _ HE3.out))
 clear hs0 hs1 hks hkk HRr HKk HPx HP3 HR3 HK3 HZ3 CQ
 generalize w4.setCell ⟨P, 3, none⟩ (.bool y3) = u4 at *
 have CQ := hid (ilPair_any HR4.out)
 go_upto_region 7 with (first | (go_at_call 36; refine CQ.out.mono ?_; rintro en w5 ⟨v, rfl, bb4, E4, o4, r4, k4⟩; obtain ⟨y4, j4, c4, rfl⟩ := form_list (EncN.enc _ E4); have hPx := (k4.block P (lt_of_block HP4.out) (fun e => by have e9 : P = Q := e; omega)).trans HP4.out; obtain ⟨qq4, rr4⟩ := row_at hPx (i := 4) rfl; have HPx := hid hPx; clear hPx; have HE4 := hid E4; have HO4 := hid o4; have HRr := hid r4; have HKk := hid k4; clear E4 o4 r4 k4))
 have hs0 := HPx.out
 have hs1 := row_put hs0 4 (.slice y4 j4 c4)
 have HP5 : Hid ((w5.setCell ⟨P, 4, none⟩ (.slice y4 j4 c4)).heap[P]? = some (.cells #[(.int .i64 y0), (.int .u64 (y1 : Int)), (.int .i64 y2), (.bool y3), (.slice y4 j4 c4), (.slice none 0 0), (.int .i64 0), (.int .i64 0), (.slice none 0 0), (.slice none 0 0), (.int .i64 0), (.int .i64 0), (.slice none 0 0), (.int .i64 0), (.slice none 0 0)] 55 (0, 0))) := hs1
 have hks : Keep (fun k => k = P) w5 (w5.setCell ⟨P, 4, none⟩ (.slice y4 j4 c4)) := (Keep.refl (fun k => k = P) _).trans (Keep.set (X := fun k => k = P) _ ⟨P, 4, none⟩ (.slice y4 j4 c4) rfl)
 have HR5 := hid (HRr.out.keep hks (fun k e => by have e9 : k = P := e; omega))
 have HK5 := hid ((HK4.out.trans HKk.out).trans2 hks (fun k e => .inr (by have e9 : k = P := e; have := HBE.out; omega)))
 have hkk : Keep (fun k => k = Q ∨ k = P) u4 (w5.setCell ⟨P, 4, none⟩ (.slice y4 j4 c4)) := (HKk.out.mono (fun k _ e => .inl e)).trans (hks.mono (fun k _ e => .inr e))
 have hzz := (hkk.block B (lt_of_block HZ4.out) (fun e => by have e9 : B = Q ∨ B = P := e; omega)).trans HZ4.out
 have HZ5 := hid hzz
 clear hzz
 have HE0 := hid (EncN.hop (Nat.le_refl _) hkk HE0.out)
 have HE1 := hid (EncN.hop (Nat.le_refl _) hkk HE1.out)
 have HE2 := hid (EncN.hop (Nat.le_refl _) hkk HE2.out)
 have HE3 := hid (EncN.hop (Nat.le_refl _) hkk HE3.out)
 have HE4 := hid (EncN.mono (N' := fun k => Q < k ∧ k ≠ P ∧ k < (w5.setCell ⟨P, 4, none⟩ (.slice y4 j4 c4)).heap.size) (fun k hk => ⟨by have := hk.1; have := HR4.out.lt; omega, by have := lt_of_block HP4.out; omega, Nat.lt_of_lt_of_le hk.2 hks.size⟩) _ (EncN.keep hks (fun k hk e => by have e9 : k = P := e; have := lt_of_block HP4.out; have := hk.1; omega) _ HE4.out))
 clear hs0 hs1 hks hkk HRr HKk HPx HP4 HR4 HK4 HZ4 CQ
 generalize w5.setCell ⟨P, 4, none⟩ (.slice y4 j4 c4) = u5 at *
 have CQ := hid (ilnum_any HR5.out)
 go_upto_region 8 with (first | (go_at_call 44; refine CQ.out.mono ?_; rintro en w6 ⟨v, rfl, bb5, E5, o5, r5, k5⟩; obtain ⟨y5, j5, c5, rfl⟩ := form_list (EncN.enc _ E5); have hPx := (k5.block P (lt_of_block HP5.out) (fun e => by have e9 : P = Q := e; omega)).trans HP5.out; obtain ⟨qq5, rr5⟩ := row_at hPx (i := 5) rfl; have HPx := hid hPx; clear hPx; have HE5 := hid E5; have HO5 := hid o5; have HRr := hid r5; have HKk := hid k5; clear E5 o5 r5 k5))
 have hs0 := HPx.out
 have hs1 := row_put hs0 5 (.slice y5 j5 c5)
 have HP6 : Hid ((w6.setCell ⟨P, 5, none⟩ (.slice y5 j5 c5)).heap[P]? = some (.cells #[(.int .i64 y0), (.int .u64 (y1 : Int)), (.int .i64 y2), (.bool y3), (.slice y4 j4 c4), (.slice y5 j5 c5), (.int .i64 0), (.int .i64 0), (.slice none 0 0), (.slice none 0 0), (.int .i64 0), (.int .i64 0), (.slice none 0 0), (.int .i64 0), (.slice none 0 0)] 55 (0, 0))) := hs1
 have hks : Keep (fun k => k = P) w6 (w6.setCell ⟨P, 5, none⟩ (.slice y5 j5 c5)) := (Keep.refl (fun k => k = P) _).trans (Keep.set (X := fun k => k = P) _ ⟨P, 5, none⟩ (.slice y5 j5 c5) rfl)
 have HR6 := hid (HRr.out.keep hks (fun k e => by have e9 : k = P := e; omega))
 have HK6 := hid ((HK5.out.trans HKk.out).trans2 hks (fun k e => .inr (by have e9 : k = P := e; have := HBE.out; omega)))
 have hkk : Keep (fun k => k = Q ∨ k = P) u5 (w6.setCell ⟨P, 5, none⟩ (.slice y5 j5 c5)) := (HKk.out.mono (fun k _ e => .inl e)).trans (hks.mono (fun k _ e => .inr e))
 have hzz := (hkk.block B (lt_of_block HZ5.out) (fun e => by have e9 : B = Q ∨ B = P := e; omega)).trans HZ5.out
 have HZ6 := hid hzz
 clear hzz
 have HE0 := hid (EncN.hop (Nat.le_refl _) hkk HE0.out)
 have HE1 := hid (EncN.hop (Nat.le_refl _) hkk HE1.out)
 have HE2 := hid (EncN.hop (Nat.le_refl _) hkk HE2.out)
 have HE3 := hid (EncN.hop (Nat.le_refl _) hkk HE3.out)
 have HE4 := hid (EncN.hop (Nat.le_refl _) hkk HE4.out)
 have HE5 := hid (EncN.mono (N' := fun k => Q < k ∧ k ≠ P ∧ k < (w6.setCell ⟨P, 5, none⟩ (.slice y5 j5 c5)).heap.size) (fun k hk => ⟨by have := hk.1; have := HR5.out.lt; omega, by have := lt_of_block HP5.out; omega, Nat.lt_of_lt_of_le hk.2 hks.size⟩) _ (EncN.keep hks (fun k hk e => by have e9 : k = P := e; have := lt_of_block HP5.out; have := hk.1; omega) _ HE5.out))
 clear hs0 hs1 hks hkk HRr HKk HPx HP5 HR5 HK5 HZ5 CQ
 generalize w6.setCell ⟨P, 5, none⟩ (.slice y5 j5 c5) = u6 at *
 have CQ := hid (istCatalog_any HR6.out)
 go_upto_region 9 with (first | (go_at_call 45; refine CQ.out.mono ?_; rintro en w7 ⟨mc, rfl, bb6, E6, o6, r6, k6⟩; obtain ⟨vv6, vv7, vv8, vv9, bv6, bv7, bv8, bv9, rfl, _, ev6, ev7, ev8, ev9⟩ := Catalog_cells (EncN.enc _ E6); obtain ⟨y6, rfl⟩ := form_int ev6; obtain ⟨y7, rfl⟩ := form_int ev7; obtain ⟨y8, j8, c8, rfl⟩ := form_list ev8; obtain ⟨y9, j9, c9, rfl⟩ := form_list ev9; clear ev6 ev7 ev8 ev9; have hPx := (k6.block P (lt_of_block HP6.out) (fun e => by have e9 : P = Q := e; omega)).trans HP6.out; obtain ⟨qq6, rr6⟩ := row_at hPx (i := 6) rfl; obtain ⟨qq7, rr7⟩ := row_at hPx (i := 7) rfl; obtain ⟨qq8, rr8⟩ := row_at hPx (i := 8) rfl; obtain ⟨qq9, rr9⟩ := row_at hPx (i := 9) rfl; have HPx := hid hPx; clear hPx; have HE6 := hid E6; have HO6 := hid o6; have HRr := hid r6; have HKk := hid k6; clear E6 o6 r6 k6))
 have hs0 := HPx.out
 have hs1 := row_put hs0 6 (.int .i64 y6)
 have hs2 := row_put hs1 7 (.int .i64 y7)
 have hs3 := row_put hs2 8 (.slice y8 j8 c8)
 have hs4 := row_put hs3 9 (.slice y9 j9 c9)
 have HP7 : Hid (((((w7.setCell ⟨P, 6, none⟩ (.int .i64 y6)).setCell ⟨P, 7, none⟩ (.int .i64 y7)).setCell ⟨P, 8, none⟩ (.slice y8 j8 c8)).setCell ⟨P, 9, none⟩ (.slice y9 j9 c9)).heap[P]? = some (.cells #[(.int .i64 y0), (.int .u64 (y1 : Int)), (.int .i64 y2), (.bool y3), (.slice y4 j4 c4), (.slice y5 j5 c5), (.int .i64 y6), (.int .i64 y7), (.slice y8 j8 c8), (.slice y9 j9 c9), (.int .i64 0), (.int .i64 0), (.slice none 0 0), (.int .i64 0), (.slice none 0 0)] 55 (0, 0))) := hs4
 have hks : Keep (fun k => k = P) w7 ((((w7.setCell ⟨P, 6, none⟩ (.int .i64 y6)).setCell ⟨P, 7, none⟩ (.int .i64 y7)).setCell ⟨P, 8, none⟩ (.slice y8 j8 c8)).setCell ⟨P, 9, none⟩ (.slice y9 j9 c9)) := ((((Keep.refl (fun k => k = P) _).trans (Keep.set (X := fun k => k = P) _ ⟨P, 6, none⟩ (.int .i64 y6) rfl)).trans (Keep.set (X := fun k => k = P) _ ⟨P, 7, none⟩ (.int .i64 y7) rfl)).trans (Keep.set (X := fun k => k = P) _ ⟨P, 8, none⟩ (.slice y8 j8 c8) rfl)).trans (Keep.set (X := fun k => k = P) _ ⟨P, 9, none⟩ (.slice y9 j9 c9) rfl)
 have HR7 := hid (HRr.out.keep hks (fun k e => by have e9 : k = P := e; omega))
 have HK7 := hid ((HK6.out.trans HKk.out).trans2 hks (fun k e => .inr (by have e9 : k = P := e; have := HBE.out; omega)))
 have hkk : Keep (fun k => k = Q ∨ k = P) u6 ((((w7.setCell ⟨P, 6, none⟩ (.int .i64 y6)).setCell ⟨P, 7, none⟩ (.int .i64 y7)).setCell ⟨P, 8, none⟩ (.slice y8 j8 c8)).setCell ⟨P, 9, none⟩ (.slice y9 j9 c9)) := (HKk.out.mono (fun k _ e => .inl e)).trans (hks.mono (fun k _ e => .inr e))
 have hzz := (hkk.block B (lt_of_block HZ6.out) (fun e => by have e9 : B = Q ∨ B = P := e; omega)).trans HZ6.out
 have HZ7 := hid hzz
 clear hzz
 have HE0 := hid (EncN.hop (Nat.le_refl _) hkk HE0.out)
 have HE1 := hid (EncN.hop (Nat.le_refl _) hkk HE1.out)
 have HE2 := hid (EncN.hop (Nat.le_refl _) hkk HE2.out)
 have HE3 := hid (EncN.hop (Nat.le_refl _) hkk HE3.out)
 have HE4 := hid (EncN.hop (Nat.le_refl _) hkk HE4.out)
 have HE5 := hid (EncN.hop (Nat.le_refl _) hkk HE5.out)
 have HE6 := hid (EncN.mono (N' := fun k => Q < k ∧ k ≠ P ∧ k < ((((w7.setCell ⟨P, 6, none⟩ (.int .i64 y6)).setCell ⟨P, 7, none⟩ (.int .i64 y7)).setCell ⟨P, 8, none⟩ (.slice y8 j8 c8)).setCell ⟨P, 9, none⟩ (.slice y9 j9 c9)).heap.size) (fun k hk => ⟨by have := hk.1; have := HR6.out.lt; omega, by have := lt_of_block HP6.out; omega, Nat.lt_of_lt_of_le hk.2 hks.size⟩) _ (EncN.keep hks (fun k hk e => by have e9 : k = P := e; have := lt_of_block HP6.out; have := hk.1; omega) _ HE6.out))
 clear hs0 hs1 hs2 hs3 hs4 hks hkk HRr HKk HPx HP6 HR6 HK6 HZ6 CQ
 generalize (((w7.setCell ⟨P, 6, none⟩ (.int .i64 y6)).setCell ⟨P, 7, none⟩ (.int .i64 y7)).setCell ⟨P, 8, none⟩ (.slice y8 j8 c8)).setCell ⟨P, 9, none⟩ (.slice y9 j9 c9) = u7 at *
 have CQ := hid (istRoutes_any HR7.out)
 go_upto_region 10 with (first | (go_at_call 46; refine CQ.out.mono ?_; rintro en w8 ⟨mc, rfl, bb7, E7, o7, r7, k7⟩; obtain ⟨vv10, vv11, vv12, vv13, vv14, bv10, bv11, bv12, bv13, bv14, rfl, _, ev10, ev11, ev12, ev13, ev14⟩ := Routes_cells (EncN.enc _ E7); obtain ⟨y10, rfl⟩ := form_int ev10; obtain ⟨y11, rfl⟩ := form_int ev11; obtain ⟨y12, j12, c12, rfl⟩ := form_list ev12; obtain ⟨y13, rfl⟩ := form_int ev13; obtain ⟨y14, j14, c14, rfl⟩ := form_data ev14; clear ev10 ev11 ev12 ev13 ev14; have hPx := (k7.block P (lt_of_block HP7.out) (fun e => by have e9 : P = Q := e; omega)).trans HP7.out; obtain ⟨qq10, rr10⟩ := row_at hPx (i := 10) rfl; obtain ⟨qq11, rr11⟩ := row_at hPx (i := 11) rfl; obtain ⟨qq12, rr12⟩ := row_at hPx (i := 12) rfl; obtain ⟨qq13, rr13⟩ := row_at hPx (i := 13) rfl; obtain ⟨qq14, rr14⟩ := row_at hPx (i := 14) rfl; have HPx := hid hPx; clear hPx; have HE7 := hid E7; have HO7 := hid o7; have HRr := hid r7; have HKk := hid k7; clear E7 o7 r7 k7))
 have hs0 := HPx.out
 have hs1 := row_put hs0 10 (.int .i64 y10)
 have hs2 := row_put hs1 11 (.int .i64 y11)
 have hs3 := row_put hs2 12 (.slice y12 j12 c12)
 have hs4 := row_put hs3 13 (.int .i64 y13)
 have hs5 := row_put hs4 14 (.slice y14 j14 c14)
 have HP8 : Hid ((((((w8.setCell ⟨P, 10, none⟩ (.int .i64 y10)).setCell ⟨P, 11, none⟩ (.int .i64 y11)).setCell ⟨P, 12, none⟩ (.slice y12 j12 c12)).setCell ⟨P, 13, none⟩ (.int .i64 y13)).setCell ⟨P, 14, none⟩ (.slice y14 j14 c14)).heap[P]? = some (.cells #[(.int .i64 y0), (.int .u64 (y1 : Int)), (.int .i64 y2), (.bool y3), (.slice y4 j4 c4), (.slice y5 j5 c5), (.int .i64 y6), (.int .i64 y7), (.slice y8 j8 c8), (.slice y9 j9 c9), (.int .i64 y10), (.int .i64 y11), (.slice y12 j12 c12), (.int .i64 y13), (.slice y14 j14 c14)] 55 (0, 0))) := hs5
 have hks : Keep (fun k => k = P) w8 (((((w8.setCell ⟨P, 10, none⟩ (.int .i64 y10)).setCell ⟨P, 11, none⟩ (.int .i64 y11)).setCell ⟨P, 12, none⟩ (.slice y12 j12 c12)).setCell ⟨P, 13, none⟩ (.int .i64 y13)).setCell ⟨P, 14, none⟩ (.slice y14 j14 c14)) := (((((Keep.refl (fun k => k = P) _).trans (Keep.set (X := fun k => k = P) _ ⟨P, 10, none⟩ (.int .i64 y10) rfl)).trans (Keep.set (X := fun k => k = P) _ ⟨P, 11, none⟩ (.int .i64 y11) rfl)).trans (Keep.set (X := fun k => k = P) _ ⟨P, 12, none⟩ (.slice y12 j12 c12) rfl)).trans (Keep.set (X := fun k => k = P) _ ⟨P, 13, none⟩ (.int .i64 y13) rfl)).trans (Keep.set (X := fun k => k = P) _ ⟨P, 14, none⟩ (.slice y14 j14 c14) rfl)
 have HR8 := hid (HRr.out.keep hks (fun k e => by have e9 : k = P := e; omega))
 have HK8 := hid ((HK7.out.trans HKk.out).trans2 hks (fun k e => .inr (by have e9 : k = P := e; have := HBE.out; omega)))
 have hkk : Keep (fun k => k = Q ∨ k = P) u7 (((((w8.setCell ⟨P, 10, none⟩ (.int .i64 y10)).setCell ⟨P, 11, none⟩ (.int .i64 y11)).setCell ⟨P, 12, none⟩ (.slice y12 j12 c12)).setCell ⟨P, 13, none⟩ (.int .i64 y13)).setCell ⟨P, 14, none⟩ (.slice y14 j14 c14)) := (HKk.out.mono (fun k _ e => .inl e)).trans (hks.mono (fun k _ e => .inr e))
 have hzz := (hkk.block B (lt_of_block HZ7.out) (fun e => by have e9 : B = Q ∨ B = P := e; omega)).trans HZ7.out
 have HZ8 := hid hzz
 clear hzz
 have HE0 := hid (EncN.hop (Nat.le_refl _) hkk HE0.out)
 have HE1 := hid (EncN.hop (Nat.le_refl _) hkk HE1.out)
 have HE2 := hid (EncN.hop (Nat.le_refl _) hkk HE2.out)
 have HE3 := hid (EncN.hop (Nat.le_refl _) hkk HE3.out)
 have HE4 := hid (EncN.hop (Nat.le_refl _) hkk HE4.out)
 have HE5 := hid (EncN.hop (Nat.le_refl _) hkk HE5.out)
 have HE6 := hid (EncN.hop (Nat.le_refl _) hkk HE6.out)
 have HE7 := hid (EncN.mono (N' := fun k => Q < k ∧ k ≠ P ∧ k < (((((w8.setCell ⟨P, 10, none⟩ (.int .i64 y10)).setCell ⟨P, 11, none⟩ (.int .i64 y11)).setCell ⟨P, 12, none⟩ (.slice y12 j12 c12)).setCell ⟨P, 13, none⟩ (.int .i64 y13)).setCell ⟨P, 14, none⟩ (.slice y14 j14 c14)).heap.size) (fun k hk => ⟨by have := hk.1; have := HR7.out.lt; omega, by have := lt_of_block HP7.out; omega, Nat.lt_of_lt_of_le hk.2 hks.size⟩) _ (EncN.keep hks (fun k hk e => by have e9 : k = P := e; have := lt_of_block HP7.out; have := hk.1; omega) _ HE7.out))
 clear hs0 hs1 hs2 hs3 hs4 hs5 hks hkk HRr HKk HPx HP7 HR7 HK7 HZ7 CQ
 generalize ((((w8.setCell ⟨P, 10, none⟩ (.int .i64 y10)).setCell ⟨P, 11, none⟩ (.int .i64 y11)).setCell ⟨P, 12, none⟩ (.slice y12 j12 c12)).setCell ⟨P, 13, none⟩ (.int .i64 y13)).setCell ⟨P, 14, none⟩ (.slice y14 j14 c14) = u8 at *
 have CE := hid (iend9_any HR8.out)
 have LD := cells_load (cs := [(.int .i64 y0), (.int .u64 (y1 : Int)), (.int .i64 y2), (.bool y3), (.slice y4 j4 c4), (.slice y5 j5 c5), (.int .i64 y6), (.int .i64 y7), (.slice y8 j8 c8), (.slice y9 j9 c9), (.int .i64 y10), (.int .i64 y11), (.slice y12 j12 c12), (.int .i64 y13), (.slice y14 j14 c14)]) (fun i u hi => (row_at HP8.out hi).1) Tryz.underlying55 rfl (by kernel_rfl)
 have HLD := hid LD
 clear LD
 obtain ⟨E, hE⟩ : ∃ E, E = endS (rdF sReply (l, 0)).2.1 (rdF sReply (l, 0)).2.2 := ⟨_, rfl⟩
 have hfin : ∀ (s : Sh) (cs : List Value) (bs : List UInt8), EncN (fun k => Q < k ∧ k ≠ P ∧ k < u8.heap.size) u8 s cs bs → EncN (fun k => B < k ∧ k < u8.heap.size) u8 s cs bs := fun s cs bs h9 => EncN.mono (fun k hk => ⟨by have := hk.1; omega, hk.2.2⟩) s h9
 have hF : FinI (fun k => B < k ∧ k < u8.heap.size) u8 sReply (l, 0) [(.int .i64 y0), (.int .u64 (y1 : Int)), (.int .i64 y2), (.bool y3), (.slice y4 j4 c4), (.slice y5 j5 c5), (.int .i64 y6), (.int .i64 y7), (.slice y8 j8 c8), (.slice y9 j9 c9), (.int .i64 y10), (.int .i64 y11), (.slice y12 j12 c12), (.int .i64 y13), (.slice y14 j14 c14)] _ := FinI.cons (hfin _ _ _ HE0.out) HO0.out (FinI.cons (hfin _ _ _ HE1.out) HO1.out (FinI.cons (hfin _ _ _ HE2.out) HO2.out (FinI.cons (hfin _ _ _ HE3.out) HO3.out (FinI.cons (hfin _ _ _ HE4.out) HO4.out (FinI.cons (hfin _ _ _ HE5.out) HO5.out (FinI.cons (hfin _ _ _ HE6.out) HO6.out (FinI.cons (hfin _ _ _ HE7.out) HO7.out FinI.nil)))))))
 obtain ⟨bf, g1, g2, g3⟩ := hF
 rw [← g3, ← hE] at CE
 have HF := hid (And.intro g1 g2)
 clear g1 g2 g3
 have hEb : E = 0 → (rdF sReply (l, 0)).2.2 = 0 := fun e => by rw [hE] at e; exact Classical.byContradiction fun h9 => h9 (by unfold endS at e; rw [if_pos h9] at e; exact e)
 have HEb := hid hEb
 have HEE := hid hE
 clear hEb hE hfin HE0 HO0 HE1 HO1 HE2 HO2 HE3 HO3 HE4 HO4 HE5 HO5 HE6 HO6 HE7 HO7
 go_upto_region 11 with (first | (go_at_call 30; refine CE.out.mono ?_; rintro en we hde; have HD := hid hde.2; obtain ⟨rfl, -⟩ := hde))
 have hbe : Below u8.heap.size u8 we := by obtain ⟨nd, rfl⟩ := HD.out; exact ⟨rfl, rfl, rfl, Nat.le_refl _, fun _ _ => rfl⟩
 have hze : we.heap[B]? = some (.cells (#[(.int .i64 0), (.int .u64 0), (.int .i64 0), (.bool false), (.slice none 0 0), (.slice none 0 0), (.int .i64 0), (.int .i64 0), (.slice none 0 0), (.slice none 0 0), (.int .i64 0), (.int .i64 0), (.slice none 0 0), (.int .i64 0), (.slice none 0 0)] : Array Value) 55 (0, 0)) := (hbe.block _ (lt_of_block HZ8.out)).trans HZ8.out
 have hle : (Instr.loadAt 55 (.pointer (some ⟨P, 0, none⟩))).run Tryz.prog we = .ok (.agg #[(.int .i64 y0), (.int .u64 (y1 : Int)), (.int .i64 y2), (.bool y3), (.slice y4 j4 c4), (.slice y5 j5 c5), (.int .i64 y6), (.int .i64 y7), (.slice y8 j8 c8), (.slice y9 j9 c9), (.int .i64 y10), (.int .i64 y11), (.slice y12 j12 c12), (.int .i64 y13), (.slice y14 j14 c14)]) we := cells_load (cs := [(.int .i64 y0), (.int .u64 (y1 : Int)), (.int .i64 y2), (.bool y3), (.slice y4 j4 c4), (.slice y5 j5 c5), (.int .i64 y6), (.int .i64 y7), (.slice y8 j8 c8), (.slice y9 j9 c9), (.int .i64 y10), (.int .i64 y11), (.slice y12 j12 c12), (.int .i64 y13), (.slice y14 j14 c14)]) (fun i u hi => (row_at ((hbe.block _ (lt_of_block HP8.out)).trans HP8.out) hi).1) Tryz.underlying55 rfl (by kernel_rfl)
 have hke : Keep (fun k => k = Q) w we := HK8.out.trans (Keep.of_below hbe)
 have HKE : Hid (Below w.heap.size w we) := hid (hke.below (Nat.le_refl _) (fun k e => by have e9 : k = Q := e; have := HBE.out; omega))
 have HBe := hid hbe
 have HLe := hid hle
 have HZe := hid hze
 clear hbe hze hle hke CE HD HLD
 by_cases he : E = 0
 · subst he
   have HE : Hid ((0 : Int) = 0) := hid rfl
   go_upto_region 13 with fail
   have HSF := hid (setRow_heap we B _ (#[(.int .i64 y0), (.int .u64 (y1 : Int)), (.int .i64 y2), (.bool y3), (.slice y4 j4 c4), (.slice y5 j5 c5), (.int .i64 y6), (.int .i64 y7), (.slice y8 j8 c8), (.slice y9 j9 c9), (.int .i64 y10), (.int .i64 y11), (.slice y12 j12 c12), (.int .i64 y13), (.slice y14 j14 c14)] : Array Value) _ _ HZe.out)
   have HKS := hid (setRow_keep we B (#[(.int .i64 y0), (.int .u64 (y1 : Int)), (.int .i64 y2), (.bool y3), (.slice y4 j4 c4), (.slice y5 j5 c5), (.int .i64 y6), (.int .i64 y7), (.slice y8 j8 c8), (.slice y9 j9 c9), (.int .i64 y10), (.int .i64 y11), (.slice y12 j12 c12), (.int .i64 y13), (.slice y14 j14 c14)] : Array Value))
   apply wp_region_lit
   refine Great.wpList_readTo rfl (some 39) rfl (.agg #[(.int .i64 y0), (.int .u64 (y1 : Int)), (.int .i64 y2), (.bool y3), (.slice y4 j4 c4), (.slice y5 j5 c5), (.int .i64 y6), (.int .i64 y7), (.slice y8 j8 c8), (.slice y9 j9 c9), (.int .i64 y10), (.int .i64 y11), (.slice y12 j12 c12), (.int .i64 y13), (.slice y14 j14 c14)]) (exec_load rfl HLe.out) ?_
   simp only [Act.put, jA, jB, jC, jD, jE, jF]
   refine Go.wpList_store_rowTo rfl 55 _ _ rfl rfl B #[(.int .i64 y0), (.int .u64 (y1 : Int)), (.int .i64 y2), (.bool y3), (.slice y4 j4 c4), (.slice y5 j5 c5), (.int .i64 y6), (.int .i64 y7), (.slice y8 j8 c8), (.slice y9 j9 c9), (.int .i64 y10), (.int .i64 y11), (.slice y12 j12 c12), (.int .i64 y13), (.slice y14 j14 c14)] rfl rfl 55 #[(.int .i64 0), (.int .u64 0), (.int .i64 0), (.bool false), (.slice none 0 0), (.slice none 0 0), (.int .i64 0), (.int .i64 0), (.slice none 0 0), (.slice none 0 0), (.int .i64 0), (.int .i64 0), (.slice none 0 0), (.int .i64 0), (.slice none 0 0)] HZe.out (by as_aux_lemma => kernel_rfl) rfl (by simp [Value.oneCell']) ?_
   generalize we.setRow B #[(.int .i64 y0), (.int .u64 (y1 : Int)), (.int .i64 y2), (.bool y3), (.slice y4 j4 c4), (.slice y5 j5 c5), (.int .i64 y6), (.int .i64 y7), (.slice y8 j8 c8), (.slice y9 j9 c9), (.int .i64 y10), (.int .i64 y11), (.slice y12 j12 c12), (.int .i64 y13), (.slice y14 j14 c14)] = uZ at *
   go_wp2_with fail
   refine bodyPost_ret (results_cell2 rfl _ _ B 55 _ (0, 0) _ rfl HSF.out Tryz.underlying55 rfl (by kernel_rfl)) rfl ?_
   have hkb : Below w.heap.size w uZ := ((Keep.of_below (X := fun k => k = B) HKE.out).trans HKS.out).below (Nat.le_refl _) (fun k e => by have e9 : k = B := e; have := HBE.out; omega)
   refine ⟨[(.int .i64 y0), (.int .u64 (y1 : Int)), (.int .i64 y2), (.bool y3), (.slice y4 j4 c4), (.slice y5 j5 c5), (.int .i64 y6), (.int .i64 y7), (.slice y8 j8 c8), (.slice y9 j9 c9), (.int .i64 y10), (.int .i64 y11), (.slice y12 j12 c12), (.int .i64 y13), (.slice y14 j14 c14)], by rw [← HEE.out]; rfl, fun e => ?_, fun e => absurd HEE.out.symm e, hkb⟩
   have hfz := HF.out.2 (HEb.out (by simp))
   rw [← hfz]
   have hku : Keep (fun k => k = B) u8 uZ := (Keep.of_below HBe.out).trans HKS.out
   exact EncN.mono (fun k hk => ⟨by have := HBE.out; have := hk.1; omega, Nat.lt_of_lt_of_le hk.2 hku.size⟩) _ (EncN.keep hku (fun k hk e => by have e9 : k = B := e; have := hk.1; omega) _ HF.out.1)
 · have HE := hid he
   have hne : (E != 0) = true := by simp [he]
   clear HLe
   go_upto_region 12 with fail
   have HSF := hid (setRow_heap we B _ (#[(.int .i64 0), (.int .u64 0), (.int .i64 0), (.bool false), (.slice none 0 0), (.slice none 0 0), (.int .i64 0), (.int .i64 0), (.slice none 0 0), (.slice none 0 0), (.int .i64 0), (.int .i64 0), (.slice none 0 0), (.int .i64 0), (.slice none 0 0)] : Array Value) _ _ HZe.out)
   have HKS := hid (setRow_keep we B (#[(.int .i64 0), (.int .u64 0), (.int .i64 0), (.bool false), (.slice none 0 0), (.slice none 0 0), (.int .i64 0), (.int .i64 0), (.slice none 0 0), (.slice none 0 0), (.int .i64 0), (.int .i64 0), (.slice none 0 0), (.int .i64 0), (.slice none 0 0)] : Array Value))
   apply wp_region_lit
   refine Great.wpList_readTo rfl (some 37) rfl (.agg #[(.int .i64 0), (.int .u64 0), (.int .i64 0), (.bool false), (.slice none 0 0), (.slice none 0 0), (.int .i64 0), (.int .i64 0), (.slice none 0 0), (.slice none 0 0), (.int .i64 0), (.int .i64 0), (.slice none 0 0), (.int .i64 0), (.slice none 0 0)]) (by as_aux_lemma => kernel_rfl) ?_
   simp only [Act.put, jA, jB, jC, jD, jE, jF]
   refine Great.wpList_readTo rfl (some 38) rfl (.int .i64 E) (by as_aux_lemma => kernel_rfl) ?_
   simp only [Act.put, jA, jB, jC, jD, jE, jF]
   refine Go.wpList_store_rowTo rfl 55 _ _ rfl rfl B #[(.int .i64 0), (.int .u64 0), (.int .i64 0), (.bool false), (.slice none 0 0), (.slice none 0 0), (.int .i64 0), (.int .i64 0), (.slice none 0 0), (.slice none 0 0), (.int .i64 0), (.int .i64 0), (.slice none 0 0), (.int .i64 0), (.slice none 0 0)] rfl rfl 55 #[(.int .i64 0), (.int .u64 0), (.int .i64 0), (.bool false), (.slice none 0 0), (.slice none 0 0), (.int .i64 0), (.int .i64 0), (.slice none 0 0), (.slice none 0 0), (.int .i64 0), (.int .i64 0), (.slice none 0 0), (.int .i64 0), (.slice none 0 0)] HZe.out (by as_aux_lemma => kernel_rfl) rfl (by simp [Value.oneCell']) ?_
   generalize we.setRow B #[(.int .i64 0), (.int .u64 0), (.int .i64 0), (.bool false), (.slice none 0 0), (.slice none 0 0), (.int .i64 0), (.int .i64 0), (.slice none 0 0), (.slice none 0 0), (.int .i64 0), (.int .i64 0), (.slice none 0 0), (.int .i64 0), (.slice none 0 0)] = uZ at *
   go_wp2_with fail
   refine bodyPost_ret (results_cell2 rfl _ _ B 55 _ (0, 0) _ rfl HSF.out Tryz.underlying55 rfl (by kernel_rfl)) rfl ?_
   have hkb : Below w.heap.size w uZ := ((Keep.of_below (X := fun k => k = B) HKE.out).trans HKS.out).below (Nat.le_refl _) (fun k e => by have e9 : k = B := e; have := HBE.out; omega)
   refine ⟨[(.int .i64 0), (.int .u64 0), (.int .i64 0), (.bool false), (.slice none 0 0), (.slice none 0 0), (.int .i64 0), (.int .i64 0), (.slice none 0 0), (.slice none 0 0), (.int .i64 0), (.int .i64 0), (.slice none 0 0), (.int .i64 0), (.slice none 0 0)], by rw [← HEE.out]; rfl, fun e => absurd (HEE.out.trans e) HE.out, fun _ => rfl, hkb⟩
end Go.Proofs.YtmdgifmigikffaaGreat
namespace Go.Proofs.YtmdgifmigikffaaGreat
open Go.RowKit Go.Deep
set_option maxHeartbeats 8000000 in
theorem itkCatalog_any {w : World} {x : Value} {l : List UInt8} (hx : Rd w x l) (hl : l.length ≤ 1000000) :
 Calls Tryz.prog 13 #[x] w (TkR sCatalog zCatalog w l) := by
 have hb : Below w.heap.size w (w.alloc (.cells #[(.int .i64 0), (.int .i64 0), (.slice none 0 0), (.slice none 0 0)] 50)) := (Below.refl _ _).alloc (Nat.le_refl _) _
 have hz := heap_alloc_new w (.cells #[(.int .i64 0), (.int .i64 0), (.slice none 0 0), (.slice none 0 0)] 50)
 have hx0 := hx.old hb
 obtain ⟨B, hB⟩ : ∃ B, B = w.heap.size := ⟨_, rfl⟩
 rw [← hB] at hz
 have HL := hid hl
 clear hx hl
 go_enter Tryz.func13, Tryz.ntmps13
 go_upto_region 1 with fail
 generalize w.alloc (.cells #[(.int .i64 0), (.int .i64 0), (.slice none 0 0), (.slice none 0 0)] 50) = wz at *
 try rw [← hB]
 have HBE := hid hB
 clear hB
 have CO := hid (iopen_any hx0 HL.out)
 have HZz := hid hz
 have HBz := hid hb
 clear hx0 hz hb
 go_upto_region 2 with (first | (go_at_call 27; refine CO.out.mono ?_; rintro en w0 ⟨Q, rfl, hQ, hR, hbo⟩; have HQ := hid hQ; have HR0 := hid hR; have HBO := hid hbo; clear hQ hR hbo))
 have hlz := lt_of_block HZz.out
 have hQB : B < Q := Nat.lt_of_lt_of_le hlz HQ.out
 have HZ0 := hid ((HBO.out.block B hlz).trans HZz.out)
 have HBW : Hid (Below w.heap.size w w0) := hid (HBz.out.trans (HBO.out.mono HBz.out.size))
 have HQs := hid (show w0.heap.size ≤ w0.heap.size from Nat.le_refl _)
 clear CO HZz HBz HBO HQ hlz
 have CQ := hid (istCatalog_any HR0.out)
 go_upto_region 3 with (first | (go_at_call 45; refine CQ.out.mono ?_; rintro en w1 ⟨mc, rfl, bb0, E0, o0, r0, k0⟩; obtain ⟨vv0, vv1, vv2, vv3, bv0, bv1, bv2, bv3, rfl, _, ev0, ev1, ev2, ev3⟩ := Catalog_cells (EncN.enc _ E0); obtain ⟨y0, rfl⟩ := form_int ev0; obtain ⟨y1, rfl⟩ := form_int ev1; obtain ⟨y2, j2, c2, rfl⟩ := form_list ev2; obtain ⟨y3, j3, c3, rfl⟩ := form_list ev3; clear ev0 ev1 ev2 ev3; have HE0 := hid E0; have HO0 := hid o0; have HRr := hid r0; have HKk := hid k0; clear E0 o0 r0 k0))
 have hb1 : Below w1.heap.size w1 (w1.alloc (.cells #[(.int .i64 y0), (.int .i64 y1), (.slice y2 j2 c2), (.slice y3 j3 c3)] 50)) := (Below.refl _ _).alloc (Nat.le_refl _) _
 have hp1 := heap_alloc_new w1 (.cells #[(.int .i64 y0), (.int .i64 y1), (.slice y2 j2 c2), (.slice y3 j3 c3)] 50)
 have hPz : B < w1.heap.size := Nat.lt_of_lt_of_le (lt_of_block HZ0.out) HKk.out.size
 have HE0 := hid (EncN.keep (X := fun _ => False) (Keep.of_below hb1) (fun _ _ e => e) _ (EncN.mono (N' := fun k => Q < k ∧ k ≠ w1.heap.size ∧ k < w1.heap.size + 1) (fun k hk => ⟨Nat.lt_of_lt_of_le (HR0.out.lt) hk.1, by omega, by omega⟩) _ HE0.out))
 have HR1 := hid (HRr.out.keep (X := fun _ => False) (Keep.of_below hb1) (fun _ e => e.elim))
 have HK1 := hid (((Keep.of_below (X := fun k => k = Q) HBW.out).trans HKk.out).trans (Keep.of_below hb1))
 have HZ1 := hid ((hb1.block B hPz).trans ((HKk.out.block B (lt_of_block HZ0.out) (fun e => by have e9 : B = Q := e; omega)).trans HZ0.out))
 have hQP : Q < w1.heap.size := Nat.lt_of_lt_of_le HR0.out.lt HKk.out.size
 obtain ⟨P, hP⟩ : ∃ P, P = w1.heap.size := ⟨_, rfl⟩
 rw [← hP] at hp1 hPz HE0 hQP ⊢
 have HP1 := hid hp1
 have hsz1 := lt_of_block hp1
 clear hb1 hp1 hP HRr HKk CQ HZ0 HR0
 generalize w1.alloc (.cells #[(.int .i64 y0), (.int .i64 y1), (.slice y2 j2 c2), (.slice y3 j3 c3)] 50) = u1 at *
 have HE0 : Hid (EncN (fun k => Q < k ∧ k ≠ P ∧ k < u1.heap.size) u1 sCatalog [(.int .i64 y0), (.int .i64 y1), (.slice y2 j2 c2), (.slice y3 j3 c3)] bb0) := hid (EncN.mono (fun k hk => ⟨hk.1, hk.2.1, by have := hk.2.2; omega⟩) _ HE0.out)
 clear hsz1
 have CE := hid (iend9_any HR1.out)
 have LD := cells_load (cs := [(.int .i64 y0), (.int .i64 y1), (.slice y2 j2 c2), (.slice y3 j3 c3)]) (fun i u hi => (row_at HP1.out hi).1) Tryz.underlying50 rfl (by kernel_rfl)
 have HLD := hid LD
 clear LD
 obtain ⟨E, hE⟩ : ∃ E, E = endS (rdF sCatalog (l, 0)).2.1 (rdF sCatalog (l, 0)).2.2 := ⟨_, rfl⟩
 have hfin : ∀ (s : Sh) (cs : List Value) (bs : List UInt8), EncN (fun k => Q < k ∧ k ≠ P ∧ k < u1.heap.size) u1 s cs bs → EncN (fun k => B < k ∧ k < u1.heap.size) u1 s cs bs := fun s cs bs h9 => EncN.mono (fun k hk => ⟨by have := hk.1; omega, hk.2.2⟩) s h9
 have HF := hid (And.intro (hfin _ _ _ HE0.out) HO0.out)
 rw [← hE] at CE
 have hEb : E = 0 → (rdF sCatalog (l, 0)).2.2 = 0 := fun e => by rw [hE] at e; exact Classical.byContradiction fun h9 => h9 (by unfold endS at e; rw [if_pos h9] at e; exact e)
 have HEb := hid hEb
 have HEE := hid hE
 clear hEb hE hfin HE0 HO0
 go_upto_region 4 with (first | (go_at_call 30; refine CE.out.mono ?_; rintro en we hde; have HD := hid hde.2; obtain ⟨rfl, -⟩ := hde))
 have hbe : Below u1.heap.size u1 we := by obtain ⟨nd, rfl⟩ := HD.out; exact ⟨rfl, rfl, rfl, Nat.le_refl _, fun _ _ => rfl⟩
 have hze : we.heap[B]? = some (.cells (#[(.int .i64 0), (.int .i64 0), (.slice none 0 0), (.slice none 0 0)] : Array Value) 50 (0, 0)) := (hbe.block _ (lt_of_block HZ1.out)).trans HZ1.out
 have hle : (Instr.loadAt 50 (.pointer (some ⟨P, 0, none⟩))).run Tryz.prog we = .ok (.agg #[(.int .i64 y0), (.int .i64 y1), (.slice y2 j2 c2), (.slice y3 j3 c3)]) we := cells_load (cs := [(.int .i64 y0), (.int .i64 y1), (.slice y2 j2 c2), (.slice y3 j3 c3)]) (fun i u hi => (row_at ((hbe.block _ (lt_of_block HP1.out)).trans HP1.out) hi).1) Tryz.underlying50 rfl (by kernel_rfl)
 have hke : Keep (fun k => k = Q) w we := HK1.out.trans (Keep.of_below hbe)
 have HKE : Hid (Below w.heap.size w we) := hid (hke.below (Nat.le_refl _) (fun k e => by have e9 : k = Q := e; have := HBE.out; omega))
 have HBe := hid hbe
 have HLe := hid hle
 have HZe := hid hze
 clear hbe hze hle hke CE HD HLD
 by_cases he : E = 0
 · subst he
   have HE : Hid ((0 : Int) = 0) := hid rfl
   go_upto_region 6 with fail
   have HSF := hid (setRow_heap we B _ (#[(.int .i64 y0), (.int .i64 y1), (.slice y2 j2 c2), (.slice y3 j3 c3)] : Array Value) _ _ HZe.out)
   have HKS := hid (setRow_keep we B (#[(.int .i64 y0), (.int .i64 y1), (.slice y2 j2 c2), (.slice y3 j3 c3)] : Array Value))
   apply wp_region_lit
   refine Great.wpList_readTo rfl (some 17) rfl (.agg #[(.int .i64 y0), (.int .i64 y1), (.slice y2 j2 c2), (.slice y3 j3 c3)]) (exec_load rfl HLe.out) ?_
   simp only [Act.put, jA, jB, jC, jD, jE, jF]
   refine Go.wpList_store_rowTo rfl 50 _ _ rfl rfl B #[(.int .i64 y0), (.int .i64 y1), (.slice y2 j2 c2), (.slice y3 j3 c3)] rfl rfl 50 #[(.int .i64 0), (.int .i64 0), (.slice none 0 0), (.slice none 0 0)] HZe.out (by as_aux_lemma => kernel_rfl) rfl (by simp [Value.oneCell']) ?_
   generalize we.setRow B #[(.int .i64 y0), (.int .i64 y1), (.slice y2 j2 c2), (.slice y3 j3 c3)] = uZ at *
   go_wp2_with fail
   refine bodyPost_ret (results_cell2 rfl _ _ B 50 _ (0, 0) _ rfl HSF.out Tryz.underlying50 rfl (by kernel_rfl)) rfl ?_
   have hkb : Below w.heap.size w uZ := ((Keep.of_below (X := fun k => k = B) HKE.out).trans HKS.out).below (Nat.le_refl _) (fun k e => by have e9 : k = B := e; have := HBE.out; omega)
   refine ⟨[(.int .i64 y0), (.int .i64 y1), (.slice y2 j2 c2), (.slice y3 j3 c3)], by rw [← HEE.out]; rfl, fun e => ?_, fun e => absurd HEE.out.symm e, hkb⟩
   have hfz := HF.out.2 (HEb.out (by simp))
   rw [← hfz]
   have hku : Keep (fun k => k = B) u1 uZ := (Keep.of_below HBe.out).trans HKS.out
   exact EncN.mono (fun k hk => ⟨by have := HBE.out; have := hk.1; omega, Nat.lt_of_lt_of_le hk.2 hku.size⟩) _ (EncN.keep hku (fun k hk e => by have e9 : k = B := e; have := hk.1; omega) _ HF.out.1)
 · have HE := hid he
   have hne : (E != 0) = true := by simp [he]
   clear HLe
   go_upto_region 5 with fail
   have HSF := hid (setRow_heap we B _ (#[(.int .i64 0), (.int .i64 0), (.slice none 0 0), (.slice none 0 0)] : Array Value) _ _ HZe.out)
   have HKS := hid (setRow_keep we B (#[(.int .i64 0), (.int .i64 0), (.slice none 0 0), (.slice none 0 0)] : Array Value))
   apply wp_region_lit
   refine Great.wpList_readTo rfl (some 15) rfl (.agg #[(.int .i64 0), (.int .i64 0), (.slice none 0 0), (.slice none 0 0)]) (by as_aux_lemma => kernel_rfl) ?_
   simp only [Act.put, jA, jB, jC, jD, jE, jF]
   refine Great.wpList_readTo rfl (some 16) rfl (.int .i64 E) (by as_aux_lemma => kernel_rfl) ?_
   simp only [Act.put, jA, jB, jC, jD, jE, jF]
   refine Go.wpList_store_rowTo rfl 50 _ _ rfl rfl B #[(.int .i64 0), (.int .i64 0), (.slice none 0 0), (.slice none 0 0)] rfl rfl 50 #[(.int .i64 0), (.int .i64 0), (.slice none 0 0), (.slice none 0 0)] HZe.out (by as_aux_lemma => kernel_rfl) rfl (by simp [Value.oneCell']) ?_
   generalize we.setRow B #[(.int .i64 0), (.int .i64 0), (.slice none 0 0), (.slice none 0 0)] = uZ at *
   go_wp2_with fail
   refine bodyPost_ret (results_cell2 rfl _ _ B 50 _ (0, 0) _ rfl HSF.out Tryz.underlying50 rfl (by kernel_rfl)) rfl ?_
   have hkb : Below w.heap.size w uZ := ((Keep.of_below (X := fun k => k = B) HKE.out).trans HKS.out).below (Nat.le_refl _) (fun k e => by have e9 : k = B := e; have := HBE.out; omega)
   refine ⟨[(.int .i64 0), (.int .i64 0), (.slice none 0 0), (.slice none 0 0)], by rw [← HEE.out]; rfl, fun e => absurd (HEE.out.trans e) HE.out, fun _ => rfl, hkb⟩
end Go.Proofs.YtmdgifmigikffaaGreat
