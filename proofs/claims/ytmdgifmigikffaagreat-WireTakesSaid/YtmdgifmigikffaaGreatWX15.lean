import Derived.WalkKit
import Derived.OpenShut
import Derived.Test.YtmdgifmigikffaaGreatRows
import Derived.WalkSpells
import Derived.WalkLawsBesides
import Derived.Laws.AppendOwnNone
import Derived.ProofKit
import Derived.ShutString
import Derived.ChangeOld
import Derived.Below
import Derived.SizedLaws
import Derived.BigQuiet
import Derived.Deep.QuietTactic
import Derived.Deep.RegionHeld3
import Derived.StillTailTactics
import Derived.Deep.Slices
import Derived.Deep.AppendLies
import Derived.Deep.RegionHeld
import Derived.Deep.Strs
import Derived.Lib.ConvBytes
import Derived.Laws.AppendOwn
import Derived.Deep.CutRange
import Derived.Deep.MidRow
import Derived.Great.Walk
import Derived.Great.BuildSlice
import Derived.Test.YtmdgifmigikffaaGreatWX1
import Derived.Test.YtmdgifmigikffaaGreatWX2
import Derived.Test.YtmdgifmigikffaaGreatWX3
import Derived.Test.YtmdgifmigikffaaGreatWX4
import Derived.Test.YtmdgifmigikffaaGreatWX5
import Derived.Test.YtmdgifmigikffaaGreatWX6
import Derived.Test.YtmdgifmigikffaaGreatWX7
import Derived.Test.YtmdgifmigikffaaGreatWX8
import Derived.Test.YtmdgifmigikffaaGreatWX9
import Derived.Test.YtmdgifmigikffaaGreatWX10
import Derived.Test.YtmdgifmigikffaaGreatWX11
set_option linter.unusedVariables false
set_option linter.unusedSimpArgs false
set_option maxRecDepth 100000
namespace Go.Proofs.YtmdgifmigikffaaGreat
open Go.RowKit Go.Deep
set_option maxHeartbeats 8000000 in
theorem istValue_any {w : World} {Q : Nat} {st : Rst} (h : RI w Q st) :
 Calls Tryz.prog 171 #[.pointer (some ⟨Q, 0, none⟩)] w (fun en w' => ∃ cs, en = .returned (.agg cs.toArray) ∧ RdI sValue Q w st cs w') := by
 have hb : Below w.heap.size w (w.alloc (.cells #[(.int .i64 0), (.int .i64 0), (.string ⟨#[]⟩)] 200)) := (Below.refl _ _).alloc (Nat.le_refl _) _
 have hz := heap_alloc_new w (.cells #[(.int .i64 0), (.int .i64 0), (.string ⟨#[]⟩)] 200)
 have hQB := h.lt
 have HR0 := hid (h.keep (X := fun _ => False) (Keep.of_below hb) (fun _ e => e.elim))
 obtain ⟨B, hB⟩ : ∃ B, B = w.heap.size := ⟨_, rfl⟩
 rw [← hB] at hz hQB
 have HZ0 := hid hz
 have HBW := hid hb
 clear h hb hz
 go_enter Tryz.func171, Tryz.ntmps171
 go_upto_region 1 with fail
 generalize w.alloc (.cells #[(.int .i64 0), (.int .i64 0), (.string ⟨#[]⟩)] 200) = w0 at *
 try rw [← hB]
 have HBE := hid hB
 clear hB
 have CQ := hid (iint9_any HR0.out)
 go_upto_region 2 with (first | (go_at_call 33; refine CQ.out.mono ?_; rintro en w1 ⟨v, rfl, bb0, E0, o0, r0, k0⟩; obtain ⟨y0, rfl⟩ := form_int (EncN.enc _ E0); have HE0 := hid E0; have HO0 := hid o0; have HRr := hid r0; have HKk := hid k0; clear E0 o0 r0 k0))
 have hb1 : Below w1.heap.size w1 (w1.alloc (.cells #[(.int .i64 y0), (.int .i64 0), (.string ⟨#[]⟩)] 200)) := (Below.refl _ _).alloc (Nat.le_refl _) _
 have hp1 := heap_alloc_new w1 (.cells #[(.int .i64 y0), (.int .i64 0), (.string ⟨#[]⟩)] 200)
 have hPz : B < w1.heap.size := Nat.lt_of_lt_of_le (lt_of_block HZ0.out) HKk.out.size
 have HE0 := hid (EncN.keep (X := fun _ => False) (Keep.of_below hb1) (fun _ _ e => e) _ (EncN.mono (N' := fun k => B < k ∧ k ≠ w1.heap.size ∧ k < w1.heap.size + 1) (fun k hk => ⟨Nat.lt_of_lt_of_le (lt_of_block HZ0.out) hk.1, by omega, by omega⟩) _ HE0.out))
 have HR1 := hid (HRr.out.keep (X := fun _ => False) (Keep.of_below hb1) (fun _ e => e.elim))
 have HK1 := hid (((Keep.of_below (X := fun k => k = Q) HBW.out).trans HKk.out).trans (Keep.of_below hb1))
 have HZ1 := hid ((hb1.block B hPz).trans ((HKk.out.block B (lt_of_block HZ0.out) (fun e => by have e9 : B = Q := e; omega)).trans HZ0.out))
 obtain ⟨P, hP⟩ : ∃ P, P = w1.heap.size := ⟨_, rfl⟩
 rw [← hP] at hp1 hPz HE0 ⊢
 have HP1 := hid hp1
 have hsz1 := lt_of_block hp1
 clear hb1 hp1 hP HRr HKk CQ HZ0 HR0
 generalize w1.alloc (.cells #[(.int .i64 y0), (.int .i64 0), (.string ⟨#[]⟩)] 200) = u1 at *
 have HE0 : Hid (EncN (fun k => B < k ∧ k ≠ P ∧ k < u1.heap.size) u1 .int [(.int .i64 y0)] bb0) := hid (EncN.mono (fun k hk => ⟨hk.1, hk.2.1, by have := hk.2.2; omega⟩) _ HE0.out)
 clear hsz1
 have CQ := hid (iwidev_any HR1.out)
 go_upto_region 3 with (first | (go_at_call 98; refine CQ.out.mono ?_; rintro en w2 ⟨v, rfl, bb1, E1, o1, r1, k1⟩; obtain ⟨y1, rfl⟩ := form_int (EncN.enc _ E1); have hPx := (k1.block P (lt_of_block HP1.out) (fun e => by have e9 : P = Q := e; omega)).trans HP1.out; obtain ⟨qq1, rr1⟩ := row_at (cs := [(.int .i64 y0), (.int .i64 0), (.string ⟨#[]⟩)]) hPx (i := 1) rfl; have HPx := hid hPx; clear hPx; have HE1 := hid E1; have HO1 := hid o1; have HRr := hid r1; have HKk := hid k1; clear E1 o1 r1 k1))
 have hs0 := HPx.out
 have hs1 := row_put (cs := [(.int .i64 y0), (.int .i64 0), (.string ⟨#[]⟩)]) hs0 1 (.int .i64 y1)
 have HP2 : Hid ((w2.setCell ⟨P, 1, none⟩ (.int .i64 y1)).heap[P]? = some (.cells #[(.int .i64 y0), (.int .i64 y1), (.string ⟨#[]⟩)] 200 (0, 0))) := hs1
 have hks : Keep (fun k => k = P) w2 (w2.setCell ⟨P, 1, none⟩ (.int .i64 y1)) := (Keep.refl (fun k => k = P) _).trans (Keep.set (X := fun k => k = P) _ ⟨P, 1, none⟩ (.int .i64 y1) rfl)
 have HR2 := hid (HRr.out.keep hks (fun k e => by have e9 : k = P := e; omega))
 have HK2 := hid ((HK1.out.trans HKk.out).trans2 hks (fun k e => .inr (by have e9 : k = P := e; have := HBE.out; omega)))
 have hkk : Keep (fun k => k = Q ∨ k = P) u1 (w2.setCell ⟨P, 1, none⟩ (.int .i64 y1)) := (HKk.out.mono (fun k _ e => .inl e)).trans (hks.mono (fun k _ e => .inr e))
 have hzz := (hkk.block B (lt_of_block HZ1.out) (fun e => by have e9 : B = Q ∨ B = P := e; omega)).trans HZ1.out
 have HZ2 := hid hzz
 clear hzz
 have HE0 := hid (EncN.hop (Nat.le_of_lt hQB) hkk HE0.out)
 have HE1 := hid (EncN.mono (N' := fun k => B < k ∧ k ≠ P ∧ k < (w2.setCell ⟨P, 1, none⟩ (.int .i64 y1)).heap.size) (fun k hk => ⟨by have := lt_of_block HZ1.out; omega, by have := lt_of_block HP1.out; omega, Nat.lt_of_lt_of_le hk.2 hks.size⟩) _ (EncN.keep hks (fun k hk e => by have e9 : k = P := e; have := lt_of_block HP1.out; have := hk.1; omega) _ HE1.out))
 clear hs0 hs1 hks hkk HRr HKk HPx HP1 HR1 HK1 HZ1 CQ
 generalize w2.setCell ⟨P, 1, none⟩ (.int .i64 y1) = u2 at *
 have CQ := hid (itext9_any HR2.out)
 go_upto_region 4 with (first | (go_at_call 41; refine CQ.out.mono ?_; rintro en w3 ⟨v, rfl, bb2, E2, o2, r2, k2⟩; obtain ⟨y2, rfl⟩ := form_name (EncN.enc _ E2); have hPx := (k2.block P (lt_of_block HP2.out) (fun e => by have e9 : P = Q := e; omega)).trans HP2.out; obtain ⟨qq2, rr2⟩ := row_at (cs := [(.int .i64 y0), (.int .i64 y1), (.string ⟨#[]⟩)]) hPx (i := 2) rfl; have HPx := hid hPx; clear hPx; have HE2 := hid E2; have HO2 := hid o2; have HRr := hid r2; have HKk := hid k2; clear E2 o2 r2 k2))
 have hs0 := HPx.out
 have hs1 := row_put (cs := [(.int .i64 y0), (.int .i64 y1), (.string ⟨#[]⟩)]) hs0 2 (.string y2)
 have HP3 : Hid ((w3.setCell ⟨P, 2, none⟩ (.string y2)).heap[P]? = some (.cells #[(.int .i64 y0), (.int .i64 y1), (.string y2)] 200 (0, 0))) := hs1
 have hks : Keep (fun k => k = P) w3 (w3.setCell ⟨P, 2, none⟩ (.string y2)) := (Keep.refl (fun k => k = P) _).trans (Keep.set (X := fun k => k = P) _ ⟨P, 2, none⟩ (.string y2) rfl)
 have HR3 := hid (HRr.out.keep hks (fun k e => by have e9 : k = P := e; omega))
 have HK3 := hid ((HK2.out.trans HKk.out).trans2 hks (fun k e => .inr (by have e9 : k = P := e; have := HBE.out; omega)))
 have hkk : Keep (fun k => k = Q ∨ k = P) u2 (w3.setCell ⟨P, 2, none⟩ (.string y2)) := (HKk.out.mono (fun k _ e => .inl e)).trans (hks.mono (fun k _ e => .inr e))
 have hzz := (hkk.block B (lt_of_block HZ2.out) (fun e => by have e9 : B = Q ∨ B = P := e; omega)).trans HZ2.out
 have HZ3 := hid hzz
 clear hzz
 have HE0 := hid (EncN.hop (Nat.le_of_lt hQB) hkk HE0.out)
 have HE1 := hid (EncN.hop (Nat.le_of_lt hQB) hkk HE1.out)
 have HE2 := hid (EncN.mono (N' := fun k => B < k ∧ k ≠ P ∧ k < (w3.setCell ⟨P, 2, none⟩ (.string y2)).heap.size) (fun k hk => ⟨by have := lt_of_block HZ2.out; omega, by have := lt_of_block HP2.out; omega, Nat.lt_of_lt_of_le hk.2 hks.size⟩) _ (EncN.keep hks (fun k hk e => by have e9 : k = P := e; have := lt_of_block HP2.out; have := hk.1; omega) _ HE2.out))
 clear hs0 hs1 hks hkk HRr HKk HPx HP2 HR2 HK2 HZ2 CQ
 generalize w3.setCell ⟨P, 2, none⟩ (.string y2) = u3 at *
 have LD := cells_load (cs := [(.int .i64 y0), (.int .i64 y1), (.string y2)]) (fun i u hi => (row_at HP3.out hi).1) Tryz.underlying200 rfl (by kernel_rfl)
 have HLD := hid LD
 clear LD
 have HSF := hid (setRow_heap u3 B _ (#[(.int .i64 y0), (.int .i64 y1), (.string y2)] : Array Value) _ _ HZ3.out)
 have HKS := hid (setRow_keep u3 B (#[(.int .i64 y0), (.int .i64 y1), (.string y2)] : Array Value))
 have HZZ : Hid (u3.heap[B]? = some (.cells (#[(.int .i64 0), (.int .i64 0), (.string ⟨#[]⟩)] : Array Value) 200 (0, 0))) := HZ3
 apply wp_region_lit
 refine Great.wpList_readTo rfl (some 13) rfl (.agg #[(.int .i64 y0), (.int .i64 y1), (.string y2)]) (exec_load rfl HLD.out) ?_
 simp only [Act.put, jA, jB, jC, jD, jE, jF]
 refine Go.wpList_store_rowTo rfl 200 _ _ rfl rfl B #[(.int .i64 y0), (.int .i64 y1), (.string y2)] rfl rfl 200 #[(.int .i64 0), (.int .i64 0), (.string ⟨#[]⟩)] HZZ.out (by as_aux_lemma => kernel_rfl) rfl (by simp [Value.oneCell']) ?_
 generalize u3.setRow B #[(.int .i64 y0), (.int .i64 y1), (.string y2)] = uZ at *
 go_wp2_with fail
 refine bodyPost_ret (results_cell_row rfl _ _ B 200 _ (0, 0) _ rfl HSF.out Tryz.underlying200 rfl (by kernel_rfl)) rfl ?_
 have hfin : ∀ (s : Sh) (cs : List Value) (bs : List UInt8), EncN (fun k => B < k ∧ k ≠ P ∧ k < u3.heap.size) u3 s cs bs → EncN (fun k => w.heap.size ≤ k ∧ k < uZ.heap.size) uZ s cs bs := fun s cs bs h9 => EncN.mono (fun k hk => ⟨by have := HBE.out; have := hk.1; omega, Nat.lt_of_lt_of_le hk.2.2 HKS.out.size⟩) s (EncN.keep HKS.out (fun k hk e => by have e9 : k = B := e; have := hk.1; omega) s h9)
 have hF : FinI (fun k => w.heap.size ≤ k ∧ k < uZ.heap.size) uZ sValue st [(.int .i64 y0), (.int .i64 y1), (.string y2)] _ := FinI.cons (hfin _ _ _ HE0.out) HO0.out (FinI.cons (hfin _ _ _ HE1.out) HO1.out (FinI.cons (hfin _ _ _ HE2.out) HO2.out FinI.nil))
 obtain ⟨b, g1, g2, g3⟩ := hF
 refine ⟨[(.int .i64 y0), (.int .i64 y1), (.string y2)], rfl, b, g1, g2, ?_, HK3.out.trans2 HKS.out (fun k e => .inr (by have e9 : k = B := e; have := HBE.out; omega))⟩
 rw [g3]
 exact HR3.out.keep HKS.out (fun k e => by have e9 : k = B := e; omega)
set_option maxHeartbeats 8000000 in
theorem ilValue_any {w : World} {Q : Nat} {st : Rst} (h : RI w Q st) :
 Calls Tryz.prog 154 #[.pointer (some ⟨Q, 0, none⟩)] w (fun en w' => ∃ v, en = .returned v ∧ RdI (.list sValue) Q w st [v] w') := by
 obtain ⟨i0, hi0, hz0, hz1, hz2⟩ : ∃ i0, Tryz.prog.info? 200 = some i0 ∧ i0.zero = some (.agg #[.int .i64 0, .int .i64 0, .string .empty]) ∧ i0.size = 3 ∧ i0.bytes = 32 := by
  have h9 : (Tryz.prog.info? 200).map (fun i => (i.zero, i.size, i.bytes)) = some (some (.agg #[.int .i64 0, .int .i64 0, .string .empty]), 3, 32) := by kernel_rfl
  cases hq : Tryz.prog.info? 200 with
  | none => rw [hq] at h9; cases h9
  | some q => rw [hq] at h9; simp at h9; exact ⟨q, rfl, h9⟩
 have HI0 := hid (And.intro hi0 (And.intro hz0 (And.intro hz1 hz2)))
 clear hi0 hz0 hz1 hz2
 have hQw := h.lt
 have CM := hid (imany9_any h)
 obtain ⟨n, hn⟩ : ∃ n, n = (lookS 5000 st.1 st.2).1 := ⟨_, rfl⟩
 obtain ⟨s1, hs1⟩ : ∃ s1 : Rst, s1 = (st.1.drop (lookS 5000 st.1 st.2).2.1, (lookS 5000 st.1 st.2).2.2) := ⟨_, rfl⟩
 have hn5 : n ≤ 5000 := by rw [hn]; exact lookS_most _ _ _
 have hns : s1.2 ≠ 0 → n = 0 := fun e => by rw [hs1] at e; rw [hn]; exact look_fault2 _ _ _ e
 unfold IMany at CM
 rw [← hn, ← hs1] at CM
 have HN := hid (And.intro hn (And.intro hs1 hns))
 clear hn hs1 hns h
 go_enter Tryz.func154, Tryz.ntmps154
 go_wp2_with (first | (go_at_call 99; refine CM.out.mono ?_; rintro en w1 ⟨rfl, hr, hk⟩; have HR := hid hr; have HK := hid hk; clear hr hk))
 go_loopw [3, 5] (fun x i wr => ∃ (k : Nat) (M : List (List Value × List UInt8)) (ao : Option Addr) (c : Nat) (sk : Rst), x = .slice ao k c ∧ i = .int .i64 (k : Int) ∧ ILp sValue 200 Q w n s1 wr k M ao c sk) (fun _ i _ => n - (intOf i).toNat)
 case atStart => exact ⟨0, [], none, 0, s1, rfl, rfl, ILp.begin HR.out HK.out HN.out.2.2⟩
 case round =>
  obtain ⟨k, M, ao, c, sk, rfl, rfl, ht⟩ := hrel
  have hk := ht.le
  have HT := hid ht
  have CF := hid (ifault_any ht.ri)
  clear ht
  by_cases hlt : k < n
  · have hki : (k : Int) < (n : Int) := by omega
    by_cases hf : sk.2 = 0
    · rw [show decide (sk.2 ≠ 0) = false from by simp [hf]] at CF
      have HF := hid hf
      clear hf
      have CE := hid (istValue_any HT.out.ri)
      go_wp2_with (first
       | (go_at_call 76; refine CF.out.mono ?_; rintro en wf ⟨rfl, rfl⟩)
       | (go_at_call 171; refine CE.out.mono ?_; rintro en w2 ⟨mc, rfl, bb, E, ob, r1, k1⟩; obtain ⟨vv0, vv1, vv2, bv0, bv1, bv2, rfl, _, ev0, ev1, ev2⟩ := Value_cells (EncN.enc _ E); obtain ⟨y0, rfl⟩ := form_int ev0; obtain ⟨y1, rfl⟩ := form_int ev1; obtain ⟨y2, rfl⟩ := form_name ev2; clear ev0 ev1 ev2; have HE := hid E; have HO := hid ob; have HR1 := hid r1; have HK1 := hid k1; have HB3 := hid ((Below.refl _ w2).alloc (Nat.le_refl _) (.cells #[(.int .i64 y0), (.int .i64 y1), (.string y2)] 200)); have HOW := hid (own_old (own_keep (X := fun j => j = Q) HT.out.own k1 (fun j e e9 => by have e8 : j = Q := e9; have := (HT.out.own.lt j e).1; omega)) HB3.out); have HSZ := hid (show w.heap.size ≤ (w2.alloc (.cells #[(.int .i64 y0), (.int .i64 y1), (.string y2)] 200)).heap.size from Nat.le_trans HT.out.keep.size (Nat.le_trans k1.size HB3.out.size)); clear E ob r1 k1)
       | (at_builtin; refine wp_app1 rfl _ _ 125 rfl w.heap.size 200 Tryz.underlying125 HI0.out.1 HI0.out.2.1 HI0.out.2.2.1 HI0.out.2.2.2 (by simp [Value.cells]) (by decide) _ k _ rfl HOW.out w2.heap.size [(.int .i64 y0), (.int .i64 y1), (.string y2)] rfl (heap_alloc_new w2 (.cells #[(.int .i64 y0), (.int .i64 y1), (.string y2)] 200)) rfl (fun u hu => by simp only [List.mem_cons, List.not_mem_nil, or_false] at hu; rcases hu with rfl | rfl | rfl <;> rfl) (by omega) (by decide) HSZ.out ?_; intro g cap w4 o4 g4 gg; have HX := hid (HT.out.next hQw hlt HF.out HE.out HO.out HR1.out HK1.out HB3.out o4 g4 gg); clear o4 g4 gg))
      go_roundw
      case rel => exact ⟨k + 1, _, _, _, _, rfl, by go_num, HX.out⟩
      case measure => simp [intOf]; omega
    · rw [show decide (sk.2 ≠ 0) = true from by simp [hf]] at CF
      have HF := hid hf
      clear hf
      go_wp2_with (first | (go_at_call 76; refine CF.out.mono ?_; rintro en wf ⟨rfl, rfl⟩))
      go_ret
      have hT := HT.out
      rw [HN.out.1, HN.out.2.1] at hT
      exact ⟨_, rfl, hT.done (.inr HF.out)⟩
  · have hki : ¬ (k : Int) < (n : Int) := by omega
    go_wp2_with fail
    go_ret
    have hkn : k = n := by omega
    have hT := HT.out
    rw [HN.out.1, HN.out.2.1] at hT
    exact ⟨_, rfl, hT.done (.inl (hkn.trans HN.out.1))⟩
end Go.Proofs.YtmdgifmigikffaaGreat
namespace Go.Proofs.YtmdgifmigikffaaGreat
open Go.RowKit Go.Deep
set_option maxHeartbeats 8000000 in
theorem istSet_any {w : World} {Q : Nat} {st : Rst} (h : RI w Q st) :
 Calls Tryz.prog 172 #[.pointer (some ⟨Q, 0, none⟩)] w (fun en w' => ∃ cs, en = .returned (.agg cs.toArray) ∧ RdI sSet Q w st cs w') := by
 have hb : Below w.heap.size w (w.alloc (.cells #[(.int .i64 0), (.int .i64 0), (.int .i64 0), (.string ⟨#[]⟩)] 203)) := (Below.refl _ _).alloc (Nat.le_refl _) _
 have hz := heap_alloc_new w (.cells #[(.int .i64 0), (.int .i64 0), (.int .i64 0), (.string ⟨#[]⟩)] 203)
 have hQB := h.lt
 have HR0 := hid (h.keep (X := fun _ => False) (Keep.of_below hb) (fun _ e => e.elim))
 obtain ⟨B, hB⟩ : ∃ B, B = w.heap.size := ⟨_, rfl⟩
 rw [← hB] at hz hQB
 have HZ0 := hid hz
 have HBW := hid hb
 clear h hb hz
 go_enter Tryz.func172, Tryz.ntmps172
 go_upto_region 1 with fail
 generalize w.alloc (.cells #[(.int .i64 0), (.int .i64 0), (.int .i64 0), (.string ⟨#[]⟩)] 203) = w0 at *
 try rw [← hB]
 have HBE := hid hB
 clear hB
 have CQ := hid (iint9_any HR0.out)
 go_upto_region 2 with (first | (go_at_call 33; refine CQ.out.mono ?_; rintro en w1 ⟨v, rfl, bb0, E0, o0, r0, k0⟩; obtain ⟨y0, rfl⟩ := form_int (EncN.enc _ E0); have HE0 := hid E0; have HO0 := hid o0; have HRr := hid r0; have HKk := hid k0; clear E0 o0 r0 k0))
 have hb1 : Below w1.heap.size w1 (w1.alloc (.cells #[(.int .i64 y0), (.int .i64 0), (.int .i64 0), (.string ⟨#[]⟩)] 203)) := (Below.refl _ _).alloc (Nat.le_refl _) _
 have hp1 := heap_alloc_new w1 (.cells #[(.int .i64 y0), (.int .i64 0), (.int .i64 0), (.string ⟨#[]⟩)] 203)
 have hPz : B < w1.heap.size := Nat.lt_of_lt_of_le (lt_of_block HZ0.out) HKk.out.size
 have HE0 := hid (EncN.keep (X := fun _ => False) (Keep.of_below hb1) (fun _ _ e => e) _ (EncN.mono (N' := fun k => B < k ∧ k ≠ w1.heap.size ∧ k < w1.heap.size + 1) (fun k hk => ⟨Nat.lt_of_lt_of_le (lt_of_block HZ0.out) hk.1, by omega, by omega⟩) _ HE0.out))
 have HR1 := hid (HRr.out.keep (X := fun _ => False) (Keep.of_below hb1) (fun _ e => e.elim))
 have HK1 := hid (((Keep.of_below (X := fun k => k = Q) HBW.out).trans HKk.out).trans (Keep.of_below hb1))
 have HZ1 := hid ((hb1.block B hPz).trans ((HKk.out.block B (lt_of_block HZ0.out) (fun e => by have e9 : B = Q := e; omega)).trans HZ0.out))
 obtain ⟨P, hP⟩ : ∃ P, P = w1.heap.size := ⟨_, rfl⟩
 rw [← hP] at hp1 hPz HE0 ⊢
 have HP1 := hid hp1
 have hsz1 := lt_of_block hp1
 clear hb1 hp1 hP HRr HKk CQ HZ0 HR0
 generalize w1.alloc (.cells #[(.int .i64 y0), (.int .i64 0), (.int .i64 0), (.string ⟨#[]⟩)] 203) = u1 at *
 have HE0 : Hid (EncN (fun k => B < k ∧ k ≠ P ∧ k < u1.heap.size) u1 .int [(.int .i64 y0)] bb0) := hid (EncN.mono (fun k hk => ⟨hk.1, hk.2.1, by have := hk.2.2; omega⟩) _ HE0.out)
 clear hsz1
 have CQ := hid (istValue_any HR1.out)
 go_upto_region 3 with (first | (go_at_call 171; refine CQ.out.mono ?_; rintro en w2 ⟨mc, rfl, bb1, E1, o1, r1, k1⟩; obtain ⟨vv1, vv2, vv3, bv1, bv2, bv3, rfl, _, ev1, ev2, ev3⟩ := Value_cells (EncN.enc _ E1); obtain ⟨y1, rfl⟩ := form_int ev1; obtain ⟨y2, rfl⟩ := form_int ev2; obtain ⟨y3, rfl⟩ := form_name ev3; clear ev1 ev2 ev3; have hPx := (k1.block P (lt_of_block HP1.out) (fun e => by have e9 : P = Q := e; omega)).trans HP1.out; obtain ⟨qq1, rr1⟩ := row_at (cs := [(.int .i64 y0), (.int .i64 0), (.int .i64 0), (.string ⟨#[]⟩)]) hPx (i := 1) rfl; obtain ⟨qq2, rr2⟩ := row_at (cs := [(.int .i64 y0), (.int .i64 0), (.int .i64 0), (.string ⟨#[]⟩)]) hPx (i := 2) rfl; obtain ⟨qq3, rr3⟩ := row_at (cs := [(.int .i64 y0), (.int .i64 0), (.int .i64 0), (.string ⟨#[]⟩)]) hPx (i := 3) rfl; have HPx := hid hPx; clear hPx; have HE1 := hid E1; have HO1 := hid o1; have HRr := hid r1; have HKk := hid k1; clear E1 o1 r1 k1))
 have hs0 := HPx.out
 have hs1 := row_put (cs := [(.int .i64 y0), (.int .i64 0), (.int .i64 0), (.string ⟨#[]⟩)]) hs0 1 (.int .i64 y1)
 have hs2 := row_put (cs := [(.int .i64 y0), (.int .i64 y1), (.int .i64 0), (.string ⟨#[]⟩)]) hs1 2 (.int .i64 y2)
 have hs3 := row_put (cs := [(.int .i64 y0), (.int .i64 y1), (.int .i64 y2), (.string ⟨#[]⟩)]) hs2 3 (.string y3)
 have HP2 : Hid ((((w2.setCell ⟨P, 1, none⟩ (.int .i64 y1)).setCell ⟨P, 2, none⟩ (.int .i64 y2)).setCell ⟨P, 3, none⟩ (.string y3)).heap[P]? = some (.cells #[(.int .i64 y0), (.int .i64 y1), (.int .i64 y2), (.string y3)] 203 (0, 0))) := hs3
 have hks : Keep (fun k => k = P) w2 (((w2.setCell ⟨P, 1, none⟩ (.int .i64 y1)).setCell ⟨P, 2, none⟩ (.int .i64 y2)).setCell ⟨P, 3, none⟩ (.string y3)) := (((Keep.refl (fun k => k = P) _).trans (Keep.set (X := fun k => k = P) _ ⟨P, 1, none⟩ (.int .i64 y1) rfl)).trans (Keep.set (X := fun k => k = P) _ ⟨P, 2, none⟩ (.int .i64 y2) rfl)).trans (Keep.set (X := fun k => k = P) _ ⟨P, 3, none⟩ (.string y3) rfl)
 have HR2 := hid (HRr.out.keep hks (fun k e => by have e9 : k = P := e; omega))
 have HK2 := hid ((HK1.out.trans HKk.out).trans2 hks (fun k e => .inr (by have e9 : k = P := e; have := HBE.out; omega)))
 have hkk : Keep (fun k => k = Q ∨ k = P) u1 (((w2.setCell ⟨P, 1, none⟩ (.int .i64 y1)).setCell ⟨P, 2, none⟩ (.int .i64 y2)).setCell ⟨P, 3, none⟩ (.string y3)) := (HKk.out.mono (fun k _ e => .inl e)).trans (hks.mono (fun k _ e => .inr e))
 have hzz := (hkk.block B (lt_of_block HZ1.out) (fun e => by have e9 : B = Q ∨ B = P := e; omega)).trans HZ1.out
 have HZ2 := hid hzz
 clear hzz
 have HE0 := hid (EncN.hop (Nat.le_of_lt hQB) hkk HE0.out)
 have HE1 := hid (EncN.mono (N' := fun k => B < k ∧ k ≠ P ∧ k < (((w2.setCell ⟨P, 1, none⟩ (.int .i64 y1)).setCell ⟨P, 2, none⟩ (.int .i64 y2)).setCell ⟨P, 3, none⟩ (.string y3)).heap.size) (fun k hk => ⟨by have := lt_of_block HZ1.out; omega, by have := lt_of_block HP1.out; omega, Nat.lt_of_lt_of_le hk.2 hks.size⟩) _ (EncN.keep hks (fun k hk e => by have e9 : k = P := e; have := lt_of_block HP1.out; have := hk.1; omega) _ HE1.out))
 clear hs0 hs1 hs2 hs3 hks hkk HRr HKk HPx HP1 HR1 HK1 HZ1 CQ
 generalize ((w2.setCell ⟨P, 1, none⟩ (.int .i64 y1)).setCell ⟨P, 2, none⟩ (.int .i64 y2)).setCell ⟨P, 3, none⟩ (.string y3) = u2 at *
 have LD := cells_load (cs := [(.int .i64 y0), (.int .i64 y1), (.int .i64 y2), (.string y3)]) (fun i u hi => (row_at HP2.out hi).1) Tryz.underlying203 rfl (by kernel_rfl)
 have HLD := hid LD
 clear LD
 have HSF := hid (setRow_heap u2 B _ (#[(.int .i64 y0), (.int .i64 y1), (.int .i64 y2), (.string y3)] : Array Value) _ _ HZ2.out)
 have HKS := hid (setRow_keep u2 B (#[(.int .i64 y0), (.int .i64 y1), (.int .i64 y2), (.string y3)] : Array Value))
 have HZZ : Hid (u2.heap[B]? = some (.cells (#[(.int .i64 0), (.int .i64 0), (.int .i64 0), (.string ⟨#[]⟩)] : Array Value) 203 (0, 0))) := HZ2
 apply wp_region_lit
 refine Great.wpList_readTo rfl (some 10) rfl (.agg #[(.int .i64 y0), (.int .i64 y1), (.int .i64 y2), (.string y3)]) (exec_load rfl HLD.out) ?_
 simp only [Act.put, jA, jB, jC, jD, jE, jF]
 refine Go.wpList_store_rowTo rfl 203 _ _ rfl rfl B #[(.int .i64 y0), (.int .i64 y1), (.int .i64 y2), (.string y3)] rfl rfl 203 #[(.int .i64 0), (.int .i64 0), (.int .i64 0), (.string ⟨#[]⟩)] HZZ.out (by as_aux_lemma => kernel_rfl) rfl (by simp [Value.oneCell']) ?_
 generalize u2.setRow B #[(.int .i64 y0), (.int .i64 y1), (.int .i64 y2), (.string y3)] = uZ at *
 go_wp2_with fail
 refine bodyPost_ret (results_cell_row rfl _ _ B 203 _ (0, 0) _ rfl HSF.out Tryz.underlying203 rfl (by kernel_rfl)) rfl ?_
 have hfin : ∀ (s : Sh) (cs : List Value) (bs : List UInt8), EncN (fun k => B < k ∧ k ≠ P ∧ k < u2.heap.size) u2 s cs bs → EncN (fun k => w.heap.size ≤ k ∧ k < uZ.heap.size) uZ s cs bs := fun s cs bs h9 => EncN.mono (fun k hk => ⟨by have := HBE.out; have := hk.1; omega, Nat.lt_of_lt_of_le hk.2.2 HKS.out.size⟩) s (EncN.keep HKS.out (fun k hk e => by have e9 : k = B := e; have := hk.1; omega) s h9)
 have hF : FinI (fun k => w.heap.size ≤ k ∧ k < uZ.heap.size) uZ sSet st [(.int .i64 y0), (.int .i64 y1), (.int .i64 y2), (.string y3)] _ := FinI.cons (hfin _ _ _ HE0.out) HO0.out (FinI.cons (hfin _ _ _ HE1.out) HO1.out FinI.nil)
 obtain ⟨b, g1, g2, g3⟩ := hF
 refine ⟨[(.int .i64 y0), (.int .i64 y1), (.int .i64 y2), (.string y3)], rfl, b, g1, g2, ?_, HK2.out.trans2 HKS.out (fun k e => .inr (by have e9 : k = B := e; have := HBE.out; omega))⟩
 rw [g3]
 exact HR2.out.keep HKS.out (fun k e => by have e9 : k = B := e; omega)
set_option maxHeartbeats 8000000 in
theorem ilSet_any {w : World} {Q : Nat} {st : Rst} (h : RI w Q st) :
 Calls Tryz.prog 155 #[.pointer (some ⟨Q, 0, none⟩)] w (fun en w' => ∃ v, en = .returned v ∧ RdI (.list sSet) Q w st [v] w') := by
 obtain ⟨i0, hi0, hz0, hz1, hz2⟩ : ∃ i0, Tryz.prog.info? 203 = some i0 ∧ i0.zero = some (.agg #[.int .i64 0, .int .i64 0, .int .i64 0, .string .empty]) ∧ i0.size = 4 ∧ i0.bytes = 40 := by
  have h9 : (Tryz.prog.info? 203).map (fun i => (i.zero, i.size, i.bytes)) = some (some (.agg #[.int .i64 0, .int .i64 0, .int .i64 0, .string .empty]), 4, 40) := by kernel_rfl
  cases hq : Tryz.prog.info? 203 with
  | none => rw [hq] at h9; cases h9
  | some q => rw [hq] at h9; simp at h9; exact ⟨q, rfl, h9⟩
 have HI0 := hid (And.intro hi0 (And.intro hz0 (And.intro hz1 hz2)))
 clear hi0 hz0 hz1 hz2
 have hQw := h.lt
 have CM := hid (imany9_any h)
 obtain ⟨n, hn⟩ : ∃ n, n = (lookS 5000 st.1 st.2).1 := ⟨_, rfl⟩
 obtain ⟨s1, hs1⟩ : ∃ s1 : Rst, s1 = (st.1.drop (lookS 5000 st.1 st.2).2.1, (lookS 5000 st.1 st.2).2.2) := ⟨_, rfl⟩
 have hn5 : n ≤ 5000 := by rw [hn]; exact lookS_most _ _ _
 have hns : s1.2 ≠ 0 → n = 0 := fun e => by rw [hs1] at e; rw [hn]; exact look_fault2 _ _ _ e
 unfold IMany at CM
 rw [← hn, ← hs1] at CM
 have HN := hid (And.intro hn (And.intro hs1 hns))
 clear hn hs1 hns h
 go_enter Tryz.func155, Tryz.ntmps155
 go_wp2_with (first | (go_at_call 99; refine CM.out.mono ?_; rintro en w1 ⟨rfl, hr, hk⟩; have HR := hid hr; have HK := hid hk; clear hr hk))
 go_loopw [3, 5] (fun x i wr => ∃ (k : Nat) (M : List (List Value × List UInt8)) (ao : Option Addr) (c : Nat) (sk : Rst), x = .slice ao k c ∧ i = .int .i64 (k : Int) ∧ ILp sSet 203 Q w n s1 wr k M ao c sk) (fun _ i _ => n - (intOf i).toNat)
 case atStart => exact ⟨0, [], none, 0, s1, rfl, rfl, ILp.begin HR.out HK.out HN.out.2.2⟩
 case round =>
  obtain ⟨k, M, ao, c, sk, rfl, rfl, ht⟩ := hrel
  have hk := ht.le
  have HT := hid ht
  have CF := hid (ifault_any ht.ri)
  clear ht
  by_cases hlt : k < n
  · have hki : (k : Int) < (n : Int) := by omega
    by_cases hf : sk.2 = 0
    · rw [show decide (sk.2 ≠ 0) = false from by simp [hf]] at CF
      have HF := hid hf
      clear hf
      have CE := hid (istSet_any HT.out.ri)
      go_wp2_with (first
       | (go_at_call 76; refine CF.out.mono ?_; rintro en wf ⟨rfl, rfl⟩)
       | (go_at_call 172; refine CE.out.mono ?_; rintro en w2 ⟨mc, rfl, bb, E, ob, r1, k1⟩; obtain ⟨vv0, vv1, vv2, vv3, bv0, bv1, bv2, bv3, rfl, _, ev0, ev1, ev2, ev3⟩ := Set_cells (EncN.enc _ E); obtain ⟨y0, rfl⟩ := form_int ev0; obtain ⟨y1, rfl⟩ := form_int ev1; obtain ⟨y2, rfl⟩ := form_int ev2; obtain ⟨y3, rfl⟩ := form_name ev3; clear ev0 ev1 ev2 ev3; have HE := hid E; have HO := hid ob; have HR1 := hid r1; have HK1 := hid k1; have HB3 := hid ((Below.refl _ w2).alloc (Nat.le_refl _) (.cells #[(.int .i64 y0), (.int .i64 y1), (.int .i64 y2), (.string y3)] 203)); have HOW := hid (own_old (own_keep (X := fun j => j = Q) HT.out.own k1 (fun j e e9 => by have e8 : j = Q := e9; have := (HT.out.own.lt j e).1; omega)) HB3.out); have HSZ := hid (show w.heap.size ≤ (w2.alloc (.cells #[(.int .i64 y0), (.int .i64 y1), (.int .i64 y2), (.string y3)] 203)).heap.size from Nat.le_trans HT.out.keep.size (Nat.le_trans k1.size HB3.out.size)); clear E ob r1 k1)
       | (at_builtin; refine wp_app1 rfl _ _ 126 rfl w.heap.size 203 Tryz.underlying126 HI0.out.1 HI0.out.2.1 HI0.out.2.2.1 HI0.out.2.2.2 (by simp [Value.cells]) (by decide) _ k _ rfl HOW.out w2.heap.size [(.int .i64 y0), (.int .i64 y1), (.int .i64 y2), (.string y3)] rfl (heap_alloc_new w2 (.cells #[(.int .i64 y0), (.int .i64 y1), (.int .i64 y2), (.string y3)] 203)) rfl (fun u hu => by simp only [List.mem_cons, List.not_mem_nil, or_false] at hu; rcases hu with rfl | rfl | rfl | rfl <;> rfl) (by omega) (by decide) HSZ.out ?_; intro g cap w4 o4 g4 gg; have HX := hid (HT.out.next hQw hlt HF.out HE.out HO.out HR1.out HK1.out HB3.out o4 g4 gg); clear o4 g4 gg))
      go_roundw
      case rel => exact ⟨k + 1, _, _, _, _, rfl, by go_num, HX.out⟩
      case measure => simp [intOf]; omega
    · rw [show decide (sk.2 ≠ 0) = true from by simp [hf]] at CF
      have HF := hid hf
      clear hf
      go_wp2_with (first | (go_at_call 76; refine CF.out.mono ?_; rintro en wf ⟨rfl, rfl⟩))
      go_ret
      have hT := HT.out
      rw [HN.out.1, HN.out.2.1] at hT
      exact ⟨_, rfl, hT.done (.inr HF.out)⟩
  · have hki : ¬ (k : Int) < (n : Int) := by omega
    go_wp2_with fail
    go_ret
    have hkn : k = n := by omega
    have hT := HT.out
    rw [HN.out.1, HN.out.2.1] at hT
    exact ⟨_, rfl, hT.done (.inl (hkn.trans HN.out.1))⟩
end Go.Proofs.YtmdgifmigikffaaGreat
namespace Go.Proofs.YtmdgifmigikffaaGreat
open Go.RowKit Go.Deep
set_option maxHeartbeats 8000000 in
theorem ildata_any {w : World} {Q : Nat} {st : Rst} (h : RI w Q st) :
 Calls Tryz.prog 156 #[.pointer (some ⟨Q, 0, none⟩)] w (fun en w' => ∃ v, en = .returned v ∧ RdI (.list .data) Q w st [v] w') := by
 obtain ⟨i0, hi0, hz0, hz1, hz2⟩ : ∃ i0, Tryz.prog.info? 22 = some i0 ∧ i0.zero = some (.slice none 0 0) ∧ i0.size = 1 ∧ i0.bytes = 24 := by
  have h9 : (Tryz.prog.info? 22).map (fun i => (i.zero, i.size, i.bytes)) = some (some (.slice none 0 0), 1, 24) := by kernel_rfl
  cases hq : Tryz.prog.info? 22 with
  | none => rw [hq] at h9; cases h9
  | some q => rw [hq] at h9; simp at h9; exact ⟨q, rfl, h9⟩
 have HI0 := hid (And.intro hi0 (And.intro hz0 (And.intro hz1 hz2)))
 clear hi0 hz0 hz1 hz2
 have hQw := h.lt
 have CM := hid (imany9_any h)
 obtain ⟨n, hn⟩ : ∃ n, n = (lookS 5000 st.1 st.2).1 := ⟨_, rfl⟩
 obtain ⟨s1, hs1⟩ : ∃ s1 : Rst, s1 = (st.1.drop (lookS 5000 st.1 st.2).2.1, (lookS 5000 st.1 st.2).2.2) := ⟨_, rfl⟩
 have hn5 : n ≤ 5000 := by rw [hn]; exact lookS_most _ _ _
 have hns : s1.2 ≠ 0 → n = 0 := fun e => by rw [hs1] at e; rw [hn]; exact look_fault2 _ _ _ e
 unfold IMany at CM
 rw [← hn, ← hs1] at CM
 have HN := hid (And.intro hn (And.intro hs1 hns))
 clear hn hs1 hns h
 go_enter Tryz.func156, Tryz.ntmps156
 go_wp2_with (first | (go_at_call 99; refine CM.out.mono ?_; rintro en w1 ⟨rfl, hr, hk⟩; have HR := hid hr; have HK := hid hk; clear hr hk))
 go_loopw [3, 5] (fun x i wr => ∃ (k : Nat) (M : List (List Value × List UInt8)) (ao : Option Addr) (c : Nat) (sk : Rst), x = .slice ao k c ∧ i = .int .i64 (k : Int) ∧ ILp .data 22 Q w n s1 wr k M ao c sk) (fun _ i _ => n - (intOf i).toNat)
 case atStart => exact ⟨0, [], none, 0, s1, rfl, rfl, ILp.begin HR.out HK.out HN.out.2.2⟩
 case round =>
  obtain ⟨k, M, ao, c, sk, rfl, rfl, ht⟩ := hrel
  have hk := ht.le
  have HT := hid ht
  have CF := hid (ifault_any ht.ri)
  clear ht
  by_cases hlt : k < n
  · have hki : (k : Int) < (n : Int) := by omega
    by_cases hf : sk.2 = 0
    · rw [show decide (sk.2 ≠ 0) = false from by simp [hf]] at CF
      have HF := hid hf
      clear hf
      have CE := hid (ibytes9_any HT.out.ri)
      go_wp2_with (first
       | (go_at_call 76; refine CF.out.mono ?_; rintro en wf ⟨rfl, rfl⟩)
       | (go_at_call 29; refine CE.out.mono ?_; rintro en w2 ⟨v, rfl, bb, E, ob, r1, k1⟩; obtain ⟨y0, j0, c0, rfl⟩ := form_data (EncN.enc _ E); have HE := hid E; have HO := hid ob; have HR1 := hid r1; have HK1 := hid k1; have HB3 := hid ((Below.refl _ w2).alloc (Nat.le_refl _) (.cells #[(.slice y0 j0 c0)] 22)); have HOW := hid (own_old (own_keep (X := fun j => j = Q) HT.out.own k1 (fun j e e9 => by have e8 : j = Q := e9; have := (HT.out.own.lt j e).1; omega)) HB3.out); have HSZ := hid (show w.heap.size ≤ (w2.alloc (.cells #[(.slice y0 j0 c0)] 22)).heap.size from Nat.le_trans HT.out.keep.size (Nat.le_trans k1.size HB3.out.size)); clear E ob r1 k1)
       | (at_builtin; refine wp_app1 rfl _ _ 127 rfl w.heap.size 22 Tryz.underlying127 HI0.out.1 HI0.out.2.1 HI0.out.2.2.1 HI0.out.2.2.2 (by simp [Value.cells]) (by decide) _ k _ rfl HOW.out w2.heap.size [(.slice y0 j0 c0)] rfl (heap_alloc_new w2 (.cells #[(.slice y0 j0 c0)] 22)) rfl (fun u hu => by simp only [List.mem_cons, List.not_mem_nil, or_false] at hu; rcases hu with rfl <;> rfl) (by omega) (by decide) HSZ.out ?_; intro g cap w4 o4 g4 gg; have HX := hid (HT.out.next hQw hlt HF.out HE.out HO.out HR1.out HK1.out HB3.out o4 g4 gg); clear o4 g4 gg))
      go_roundw
      case rel => exact ⟨k + 1, _, _, _, _, rfl, by go_num, HX.out⟩
      case measure => simp [intOf]; omega
    · rw [show decide (sk.2 ≠ 0) = true from by simp [hf]] at CF
      have HF := hid hf
      clear hf
      go_wp2_with (first | (go_at_call 76; refine CF.out.mono ?_; rintro en wf ⟨rfl, rfl⟩))
      go_ret
      have hT := HT.out
      rw [HN.out.1, HN.out.2.1] at hT
      exact ⟨_, rfl, hT.done (.inr HF.out)⟩
  · have hki : ¬ (k : Int) < (n : Int) := by omega
    go_wp2_with fail
    go_ret
    have hkn : k = n := by omega
    have hT := HT.out
    rw [HN.out.1, HN.out.2.1] at hT
    exact ⟨_, rfl, hT.done (.inl (hkn.trans HN.out.1))⟩
set_option maxHeartbeats 8000000 in
theorem istOp_any {w : World} {Q : Nat} {st : Rst} (h : RI w Q st) :
 Calls Tryz.prog 118 #[.pointer (some ⟨Q, 0, none⟩)] w (fun en w' => ∃ cs, en = .returned (.agg cs.toArray) ∧ RdI sOp Q w st cs w') := by
 have hb : Below w.heap.size w (w.alloc (.cells #[(.int .i64 0), (.string ⟨#[]⟩), (.string ⟨#[]⟩), (.slice none 0 0), (.slice none 0 0), (.slice none 0 0), (.slice none 0 0), (.slice none 0 0), (.int .i64 0), (.bool false), (.slice none 0 0)] 129)) := (Below.refl _ _).alloc (Nat.le_refl _) _
 have hz := heap_alloc_new w (.cells #[(.int .i64 0), (.string ⟨#[]⟩), (.string ⟨#[]⟩), (.slice none 0 0), (.slice none 0 0), (.slice none 0 0), (.slice none 0 0), (.slice none 0 0), (.int .i64 0), (.bool false), (.slice none 0 0)] 129)
 have hQB := h.lt
 have HR0 := hid (h.keep (X := fun _ => False) (Keep.of_below hb) (fun _ e => e.elim))
 obtain ⟨B, hB⟩ : ∃ B, B = w.heap.size := ⟨_, rfl⟩
 rw [← hB] at hz hQB
 have HZ0 := hid hz
 have HBW := hid hb
 clear h hb hz
 go_enter Tryz.func118, Tryz.ntmps118
 go_upto_region 1 with fail
 generalize w.alloc (.cells #[(.int .i64 0), (.string ⟨#[]⟩), (.string ⟨#[]⟩), (.slice none 0 0), (.slice none 0 0), (.slice none 0 0), (.slice none 0 0), (.slice none 0 0), (.int .i64 0), (.bool false), (.slice none 0 0)] 129) = w0 at *
 try rw [← hB]
 have HBE := hid hB
 clear hB
 have CQ := hid (iint9_any HR0.out)
 go_upto_region 2 with (first | (go_at_call 33; refine CQ.out.mono ?_; rintro en w1 ⟨v, rfl, bb0, E0, o0, r0, k0⟩; obtain ⟨y0, rfl⟩ := form_int (EncN.enc _ E0); have HE0 := hid E0; have HO0 := hid o0; have HRr := hid r0; have HKk := hid k0; clear E0 o0 r0 k0))
 have hb1 : Below w1.heap.size w1 (w1.alloc (.cells #[(.int .i64 y0), (.string ⟨#[]⟩), (.string ⟨#[]⟩), (.slice none 0 0), (.slice none 0 0), (.slice none 0 0), (.slice none 0 0), (.slice none 0 0), (.int .i64 0), (.bool false), (.slice none 0 0)] 129)) := (Below.refl _ _).alloc (Nat.le_refl _) _
 have hp1 := heap_alloc_new w1 (.cells #[(.int .i64 y0), (.string ⟨#[]⟩), (.string ⟨#[]⟩), (.slice none 0 0), (.slice none 0 0), (.slice none 0 0), (.slice none 0 0), (.slice none 0 0), (.int .i64 0), (.bool false), (.slice none 0 0)] 129)
 have hPz : B < w1.heap.size := Nat.lt_of_lt_of_le (lt_of_block HZ0.out) HKk.out.size
 have HE0 := hid (EncN.keep (X := fun _ => False) (Keep.of_below hb1) (fun _ _ e => e) _ (EncN.mono (N' := fun k => B < k ∧ k ≠ w1.heap.size ∧ k < w1.heap.size + 1) (fun k hk => ⟨Nat.lt_of_lt_of_le (lt_of_block HZ0.out) hk.1, by omega, by omega⟩) _ HE0.out))
 have HR1 := hid (HRr.out.keep (X := fun _ => False) (Keep.of_below hb1) (fun _ e => e.elim))
 have HK1 := hid (((Keep.of_below (X := fun k => k = Q) HBW.out).trans HKk.out).trans (Keep.of_below hb1))
 have HZ1 := hid ((hb1.block B hPz).trans ((HKk.out.block B (lt_of_block HZ0.out) (fun e => by have e9 : B = Q := e; omega)).trans HZ0.out))
 obtain ⟨P, hP⟩ : ∃ P, P = w1.heap.size := ⟨_, rfl⟩
 rw [← hP] at hp1 hPz HE0 ⊢
 have HP1 := hid hp1
 have hsz1 := lt_of_block hp1
 clear hb1 hp1 hP HRr HKk CQ HZ0 HR0
 generalize w1.alloc (.cells #[(.int .i64 y0), (.string ⟨#[]⟩), (.string ⟨#[]⟩), (.slice none 0 0), (.slice none 0 0), (.slice none 0 0), (.slice none 0 0), (.slice none 0 0), (.int .i64 0), (.bool false), (.slice none 0 0)] 129) = u1 at *
 have HE0 : Hid (EncN (fun k => B < k ∧ k ≠ P ∧ k < u1.heap.size) u1 .int [(.int .i64 y0)] bb0) := hid (EncN.mono (fun k hk => ⟨hk.1, hk.2.1, by have := hk.2.2; omega⟩) _ HE0.out)
 clear hsz1
 have CQ := hid (itext9_any HR1.out)
 go_upto_region 3 with (first | (go_at_call 41; refine CQ.out.mono ?_; rintro en w2 ⟨v, rfl, bb1, E1, o1, r1, k1⟩; obtain ⟨y1, rfl⟩ := form_name (EncN.enc _ E1); have hPx := (k1.block P (lt_of_block HP1.out) (fun e => by have e9 : P = Q := e; omega)).trans HP1.out; obtain ⟨qq1, rr1⟩ := row_at (cs := [(.int .i64 y0), (.string ⟨#[]⟩), (.string ⟨#[]⟩), (.slice none 0 0), (.slice none 0 0), (.slice none 0 0), (.slice none 0 0), (.slice none 0 0), (.int .i64 0), (.bool false), (.slice none 0 0)]) hPx (i := 1) rfl; have HPx := hid hPx; clear hPx; have HE1 := hid E1; have HO1 := hid o1; have HRr := hid r1; have HKk := hid k1; clear E1 o1 r1 k1))
 have hs0 := HPx.out
 have hs1 := row_put (cs := [(.int .i64 y0), (.string ⟨#[]⟩), (.string ⟨#[]⟩), (.slice none 0 0), (.slice none 0 0), (.slice none 0 0), (.slice none 0 0), (.slice none 0 0), (.int .i64 0), (.bool false), (.slice none 0 0)]) hs0 1 (.string y1)
 have HP2 : Hid ((w2.setCell ⟨P, 1, none⟩ (.string y1)).heap[P]? = some (.cells #[(.int .i64 y0), (.string y1), (.string ⟨#[]⟩), (.slice none 0 0), (.slice none 0 0), (.slice none 0 0), (.slice none 0 0), (.slice none 0 0), (.int .i64 0), (.bool false), (.slice none 0 0)] 129 (0, 0))) := hs1
 have hks : Keep (fun k => k = P) w2 (w2.setCell ⟨P, 1, none⟩ (.string y1)) := (Keep.refl (fun k => k = P) _).trans (Keep.set (X := fun k => k = P) _ ⟨P, 1, none⟩ (.string y1) rfl)
 have HR2 := hid (HRr.out.keep hks (fun k e => by have e9 : k = P := e; omega))
 have HK2 := hid ((HK1.out.trans HKk.out).trans2 hks (fun k e => .inr (by have e9 : k = P := e; have := HBE.out; omega)))
 have hkk : Keep (fun k => k = Q ∨ k = P) u1 (w2.setCell ⟨P, 1, none⟩ (.string y1)) := (HKk.out.mono (fun k _ e => .inl e)).trans (hks.mono (fun k _ e => .inr e))
 have hzz := (hkk.block B (lt_of_block HZ1.out) (fun e => by have e9 : B = Q ∨ B = P := e; omega)).trans HZ1.out
 have HZ2 := hid hzz
 clear hzz
 have HE0 := hid (EncN.hop (Nat.le_of_lt hQB) hkk HE0.out)
 have HE1 := hid (EncN.mono (N' := fun k => B < k ∧ k ≠ P ∧ k < (w2.setCell ⟨P, 1, none⟩ (.string y1)).heap.size) (fun k hk => ⟨by have := lt_of_block HZ1.out; omega, by have := lt_of_block HP1.out; omega, Nat.lt_of_lt_of_le hk.2 hks.size⟩) _ (EncN.keep hks (fun k hk e => by have e9 : k = P := e; have := lt_of_block HP1.out; have := hk.1; omega) _ HE1.out))
 clear hs0 hs1 hks hkk HRr HKk HPx HP1 HR1 HK1 HZ1 CQ
 generalize w2.setCell ⟨P, 1, none⟩ (.string y1) = u2 at *
 have CQ := hid (itext9_any HR2.out)
 go_upto_region 4 with (first | (go_at_call 41; refine CQ.out.mono ?_; rintro en w3 ⟨v, rfl, bb2, E2, o2, r2, k2⟩; obtain ⟨y2, rfl⟩ := form_name (EncN.enc _ E2); have hPx := (k2.block P (lt_of_block HP2.out) (fun e => by have e9 : P = Q := e; omega)).trans HP2.out; obtain ⟨qq2, rr2⟩ := row_at (cs := [(.int .i64 y0), (.string y1), (.string ⟨#[]⟩), (.slice none 0 0), (.slice none 0 0), (.slice none 0 0), (.slice none 0 0), (.slice none 0 0), (.int .i64 0), (.bool false), (.slice none 0 0)]) hPx (i := 2) rfl; have HPx := hid hPx; clear hPx; have HE2 := hid E2; have HO2 := hid o2; have HRr := hid r2; have HKk := hid k2; clear E2 o2 r2 k2))
 have hs0 := HPx.out
 have hs1 := row_put (cs := [(.int .i64 y0), (.string y1), (.string ⟨#[]⟩), (.slice none 0 0), (.slice none 0 0), (.slice none 0 0), (.slice none 0 0), (.slice none 0 0), (.int .i64 0), (.bool false), (.slice none 0 0)]) hs0 2 (.string y2)
 have HP3 : Hid ((w3.setCell ⟨P, 2, none⟩ (.string y2)).heap[P]? = some (.cells #[(.int .i64 y0), (.string y1), (.string y2), (.slice none 0 0), (.slice none 0 0), (.slice none 0 0), (.slice none 0 0), (.slice none 0 0), (.int .i64 0), (.bool false), (.slice none 0 0)] 129 (0, 0))) := hs1
 have hks : Keep (fun k => k = P) w3 (w3.setCell ⟨P, 2, none⟩ (.string y2)) := (Keep.refl (fun k => k = P) _).trans (Keep.set (X := fun k => k = P) _ ⟨P, 2, none⟩ (.string y2) rfl)
 have HR3 := hid (HRr.out.keep hks (fun k e => by have e9 : k = P := e; omega))
 have HK3 := hid ((HK2.out.trans HKk.out).trans2 hks (fun k e => .inr (by have e9 : k = P := e; have := HBE.out; omega)))
 have hkk : Keep (fun k => k = Q ∨ k = P) u2 (w3.setCell ⟨P, 2, none⟩ (.string y2)) := (HKk.out.mono (fun k _ e => .inl e)).trans (hks.mono (fun k _ e => .inr e))
 have hzz := (hkk.block B (lt_of_block HZ2.out) (fun e => by have e9 : B = Q ∨ B = P := e; omega)).trans HZ2.out
 have HZ3 := hid hzz
 clear hzz
 have HE0 := hid (EncN.hop (Nat.le_of_lt hQB) hkk HE0.out)
 have HE1 := hid (EncN.hop (Nat.le_of_lt hQB) hkk HE1.out)
 have HE2 := hid (EncN.mono (N' := fun k => B < k ∧ k ≠ P ∧ k < (w3.setCell ⟨P, 2, none⟩ (.string y2)).heap.size) (fun k hk => ⟨by have := lt_of_block HZ2.out; omega, by have := lt_of_block HP2.out; omega, Nat.lt_of_lt_of_le hk.2 hks.size⟩) _ (EncN.keep hks (fun k hk e => by have e9 : k = P := e; have := lt_of_block HP2.out; have := hk.1; omega) _ HE2.out))
 clear hs0 hs1 hks hkk HRr HKk HPx HP2 HR2 HK2 HZ2 CQ
 generalize w3.setCell ⟨P, 2, none⟩ (.string y2) = u3 at *
 have CQ := hid (ilValue_any HR3.out)
 go_upto_region 5 with (first | (go_at_call 154; refine CQ.out.mono ?_; rintro en w4 ⟨v, rfl, bb3, E3, o3, r3, k3⟩; obtain ⟨y3, j3, c3, rfl⟩ := form_list (EncN.enc _ E3); have hPx := (k3.block P (lt_of_block HP3.out) (fun e => by have e9 : P = Q := e; omega)).trans HP3.out; obtain ⟨qq3, rr3⟩ := row_at hPx (i := 3) rfl; have HPx := hid hPx; clear hPx; have HE3 := hid E3; have HO3 := hid o3; have HRr := hid r3; have HKk := hid k3; clear E3 o3 r3 k3))
 have hs0 := HPx.out
 have hs1 := row_put hs0 3 (.slice y3 j3 c3)
 have HP4 : Hid ((w4.setCell ⟨P, 3, none⟩ (.slice y3 j3 c3)).heap[P]? = some (.cells #[(.int .i64 y0), (.string y1), (.string y2), (.slice y3 j3 c3), (.slice none 0 0), (.slice none 0 0), (.slice none 0 0), (.slice none 0 0), (.int .i64 0), (.bool false), (.slice none 0 0)] 129 (0, 0))) := hs1
 have hks : Keep (fun k => k = P) w4 (w4.setCell ⟨P, 3, none⟩ (.slice y3 j3 c3)) := (Keep.refl (fun k => k = P) _).trans (Keep.set (X := fun k => k = P) _ ⟨P, 3, none⟩ (.slice y3 j3 c3) rfl)
 have HR4 := hid (HRr.out.keep hks (fun k e => by have e9 : k = P := e; omega))
 have HK4 := hid ((HK3.out.trans HKk.out).trans2 hks (fun k e => .inr (by have e9 : k = P := e; have := HBE.out; omega)))
 have hkk : Keep (fun k => k = Q ∨ k = P) u3 (w4.setCell ⟨P, 3, none⟩ (.slice y3 j3 c3)) := (HKk.out.mono (fun k _ e => .inl e)).trans (hks.mono (fun k _ e => .inr e))
 have hzz := (hkk.block B (lt_of_block HZ3.out) (fun e => by have e9 : B = Q ∨ B = P := e; omega)).trans HZ3.out
 have HZ4 := hid hzz
 clear hzz
 have HE0 := hid (EncN.hop (Nat.le_of_lt hQB) hkk HE0.out)
 have HE1 := hid (EncN.hop (Nat.le_of_lt hQB) hkk HE1.out)
 have HE2 := hid (EncN.hop (Nat.le_of_lt hQB) hkk HE2.out)
 have HE3 := hid (EncN.mono (N' := fun k => B < k ∧ k ≠ P ∧ k < (w4.setCell ⟨P, 3, none⟩ (.slice y3 j3 c3)).heap.size) (fun k hk => ⟨by have := lt_of_block HZ3.out; omega, by have := lt_of_block HP3.out; omega, Nat.lt_of_lt_of_le hk.2 hks.size⟩) _ (EncN.keep hks (fun k hk e => by have e9 : k = P := e; have := lt_of_block HP3.out; have := hk.1; omega) _ HE3.out))
 clear hs0 hs1 hks hkk HRr HKk HPx HP3 HR3 HK3 HZ3 CQ
 generalize w4.setCell ⟨P, 3, none⟩ (.slice y3 j3 c3) = u4 at *
 have CQ := hid (ilValue_any HR4.out)
 go_upto_region 6 with (first | (go_at_call 154; refine CQ.out.mono ?_; rintro en w5 ⟨v, rfl, bb4, E4, o4, r4, k4⟩; obtain ⟨y4, j4, c4, rfl⟩ := form_list (EncN.enc _ E4); have hPx := (k4.block P (lt_of_block HP4.out) (fun e => by have e9 : P = Q := e; omega)).trans HP4.out; obtain ⟨qq4, rr4⟩ := row_at hPx (i := 4) rfl; have HPx := hid hPx; clear hPx; have HE4 := hid E4; have HO4 := hid o4; have HRr := hid r4; have HKk := hid k4; clear E4 o4 r4 k4))
 have hs0 := HPx.out
 have hs1 := row_put hs0 4 (.slice y4 j4 c4)
 have HP5 : Hid ((w5.setCell ⟨P, 4, none⟩ (.slice y4 j4 c4)).heap[P]? = some (.cells #[(.int .i64 y0), (.string y1), (.string y2), (.slice y3 j3 c3), (.slice y4 j4 c4), (.slice none 0 0), (.slice none 0 0), (.slice none 0 0), (.int .i64 0), (.bool false), (.slice none 0 0)] 129 (0, 0))) := hs1
 have hks : Keep (fun k => k = P) w5 (w5.setCell ⟨P, 4, none⟩ (.slice y4 j4 c4)) := (Keep.refl (fun k => k = P) _).trans (Keep.set (X := fun k => k = P) _ ⟨P, 4, none⟩ (.slice y4 j4 c4) rfl)
 have HR5 := hid (HRr.out.keep hks (fun k e => by have e9 : k = P := e; omega))
 have HK5 := hid ((HK4.out.trans HKk.out).trans2 hks (fun k e => .inr (by have e9 : k = P := e; have := HBE.out; omega)))
 have hkk : Keep (fun k => k = Q ∨ k = P) u4 (w5.setCell ⟨P, 4, none⟩ (.slice y4 j4 c4)) := (HKk.out.mono (fun k _ e => .inl e)).trans (hks.mono (fun k _ e => .inr e))
 have hzz := (hkk.block B (lt_of_block HZ4.out) (fun e => by have e9 : B = Q ∨ B = P := e; omega)).trans HZ4.out
 have HZ5 := hid hzz
 clear hzz
 have HE0 := hid (EncN.hop (Nat.le_of_lt hQB) hkk HE0.out)
 have HE1 := hid (EncN.hop (Nat.le_of_lt hQB) hkk HE1.out)
 have HE2 := hid (EncN.hop (Nat.le_of_lt hQB) hkk HE2.out)
 have HE3 := hid (EncN.hop (Nat.le_of_lt hQB) hkk HE3.out)
 have HE4 := hid (EncN.mono (N' := fun k => B < k ∧ k ≠ P ∧ k < (w5.setCell ⟨P, 4, none⟩ (.slice y4 j4 c4)).heap.size) (fun k hk => ⟨by have := lt_of_block HZ4.out; omega, by have := lt_of_block HP4.out; omega, Nat.lt_of_lt_of_le hk.2 hks.size⟩) _ (EncN.keep hks (fun k hk e => by have e9 : k = P := e; have := lt_of_block HP4.out; have := hk.1; omega) _ HE4.out))
 clear hs0 hs1 hks hkk HRr HKk HPx HP4 HR4 HK4 HZ4 CQ
 generalize w5.setCell ⟨P, 4, none⟩ (.slice y4 j4 c4) = u5 at *
 have CQ := hid (ilSet_any HR5.out)
 go_upto_region 7 with (first | (go_at_call 155; refine CQ.out.mono ?_; rintro en w6 ⟨v, rfl, bb5, E5, o5, r5, k5⟩; obtain ⟨y5, j5, c5, rfl⟩ := form_list (EncN.enc _ E5); have hPx := (k5.block P (lt_of_block HP5.out) (fun e => by have e9 : P = Q := e; omega)).trans HP5.out; obtain ⟨qq5, rr5⟩ := row_at hPx (i := 5) rfl; have HPx := hid hPx; clear hPx; have HE5 := hid E5; have HO5 := hid o5; have HRr := hid r5; have HKk := hid k5; clear E5 o5 r5 k5))
 have hs0 := HPx.out
 have hs1 := row_put hs0 5 (.slice y5 j5 c5)
 have HP6 : Hid ((w6.setCell ⟨P, 5, none⟩ (.slice y5 j5 c5)).heap[P]? = some (.cells #[(.int .i64 y0), (.string y1), (.string y2), (.slice y3 j3 c3), (.slice y4 j4 c4), (.slice y5 j5 c5), (.slice none 0 0), (.slice none 0 0), (.int .i64 0), (.bool false), (.slice none 0 0)] 129 (0, 0))) := hs1
 have hks : Keep (fun k => k = P) w6 (w6.setCell ⟨P, 5, none⟩ (.slice y5 j5 c5)) := (Keep.refl (fun k => k = P) _).trans (Keep.set (X := fun k => k = P) _ ⟨P, 5, none⟩ (.slice y5 j5 c5) rfl)
 have HR6 := hid (HRr.out.keep hks (fun k e => by have e9 : k = P := e; omega))
 have HK6 := hid ((HK5.out.trans HKk.out).trans2 hks (fun k e => .inr (by have e9 : k = P := e; have := HBE.out; omega)))
 have hkk : Keep (fun k => k = Q ∨ k = P) u5 (w6.setCell ⟨P, 5, none⟩ (.slice y5 j5 c5)) := (HKk.out.mono (fun k _ e => .inl e)).trans (hks.mono (fun k _ e => .inr e))
 have hzz := (hkk.block B (lt_of_block HZ5.out) (fun e => by have e9 : B = Q ∨ B = P := e; omega)).trans HZ5.out
 have HZ6 := hid hzz
 clear hzz
 have HE0 := hid (EncN.hop (Nat.le_of_lt hQB) hkk HE0.out)
 have HE1 := hid (EncN.hop (Nat.le_of_lt hQB) hkk HE1.out)
 have HE2 := hid (EncN.hop (Nat.le_of_lt hQB) hkk HE2.out)
 have HE3 := hid (EncN.hop (Nat.le_of_lt hQB) hkk HE3.out)
 have HE4 := hid (EncN.hop (Nat.le_of_lt hQB) hkk HE4.out)
 have HE5 := hid (EncN.mono (N' := fun k => B < k ∧ k ≠ P ∧ k < (w6.setCell ⟨P, 5, none⟩ (.slice y5 j5 c5)).heap.size) (fun k hk => ⟨by have := lt_of_block HZ5.out; omega, by have := lt_of_block HP5.out; omega, Nat.lt_of_lt_of_le hk.2 hks.size⟩) _ (EncN.keep hks (fun k hk e => by have e9 : k = P := e; have := lt_of_block HP5.out; have := hk.1; omega) _ HE5.out))
 clear hs0 hs1 hks hkk HRr HKk HPx HP5 HR5 HK5 HZ5 CQ
 generalize w6.setCell ⟨P, 5, none⟩ (.slice y5 j5 c5) = u6 at *
 have CQ := hid (ilValue_any HR6.out)
 go_upto_region 8 with (first | (go_at_call 154; refine CQ.out.mono ?_; rintro en w7 ⟨v, rfl, bb6, E6, o6, r6, k6⟩; obtain ⟨y6, j6, c6, rfl⟩ := form_list (EncN.enc _ E6); have hPx := (k6.block P (lt_of_block HP6.out) (fun e => by have e9 : P = Q := e; omega)).trans HP6.out; obtain ⟨qq6, rr6⟩ := row_at hPx (i := 6) rfl; have HPx := hid hPx; clear hPx; have HE6 := hid E6; have HO6 := hid o6; have HRr := hid r6; have HKk := hid k6; clear E6 o6 r6 k6))
 have hs0 := HPx.out
 have hs1 := row_put hs0 6 (.slice y6 j6 c6)
 have HP7 : Hid ((w7.setCell ⟨P, 6, none⟩ (.slice y6 j6 c6)).heap[P]? = some (.cells #[(.int .i64 y0), (.string y1), (.string y2), (.slice y3 j3 c3), (.slice y4 j4 c4), (.slice y5 j5 c5), (.slice y6 j6 c6), (.slice none 0 0), (.int .i64 0), (.bool false), (.slice none 0 0)] 129 (0, 0))) := hs1
 have hks : Keep (fun k => k = P) w7 (w7.setCell ⟨P, 6, none⟩ (.slice y6 j6 c6)) := (Keep.refl (fun k => k = P) _).trans (Keep.set (X := fun k => k = P) _ ⟨P, 6, none⟩ (.slice y6 j6 c6) rfl)
 have HR7 := hid (HRr.out.keep hks (fun k e => by have e9 : k = P := e; omega))
 have HK7 := hid ((HK6.out.trans HKk.out).trans2 hks (fun k e => .inr (by have e9 : k = P := e; have := HBE.out; omega)))
 have hkk : Keep (fun k => k = Q ∨ k = P) u6 (w7.setCell ⟨P, 6, none⟩ (.slice y6 j6 c6)) := (HKk.out.mono (fun k _ e => .inl e)).trans (hks.mono (fun k _ e => .inr e))
 have hzz := (hkk.block B (lt_of_block HZ6.out) (fun e => by have e9 : B = Q ∨ B = P := e; omega)).trans HZ6.out
 have HZ7 := hid hzz
 clear hzz
 have HE0 := hid (EncN.hop (Nat.le_of_lt hQB) hkk HE0.out)
 have HE1 := hid (EncN.hop (Nat.le_of_lt hQB) hkk HE1.out)
 have HE2 := hid (EncN.hop (Nat.le_of_lt hQB) hkk HE2.out)
 have HE3 := hid (EncN.hop (Nat.le_of_lt hQB) hkk HE3.out)
 have HE4 := hid (EncN.hop (Nat.le_of_lt hQB) hkk HE4.out)
 have HE5 := hid (EncN.hop (Nat.le_of_lt hQB) hkk HE5.out)
 have HE6 := hid (EncN.mono (N' := fun k => B < k ∧ k ≠ P ∧ k < (w7.setCell ⟨P, 6, none⟩ (.slice y6 j6 c6)).heap.size) (fun k hk => ⟨by have := lt_of_block HZ6.out; omega, by have := lt_of_block HP6.out; omega, Nat.lt_of_lt_of_le hk.2 hks.size⟩) _ (EncN.keep hks (fun k hk e => by have e9 : k = P := e; have := lt_of_block HP6.out; have := hk.1; omega) _ HE6.out))
 clear hs0 hs1 hks hkk HRr HKk HPx HP6 HR6 HK6 HZ6 CQ
 generalize w7.setCell ⟨P, 6, none⟩ (.slice y6 j6 c6) = u7 at *
 have CQ := hid (ilValue_any HR7.out)
 go_upto_region 9 with (first | (go_at_call 154; refine CQ.out.mono ?_; rintro en w8 ⟨v, rfl, bb7, E7, o7, r7, k7⟩; obtain ⟨y7, j7, c7, rfl⟩ := form_list (EncN.enc _ E7); have hPx := (k7.block P (lt_of_block HP7.out) (fun e => by have e9 : P = Q := e; omega)).trans HP7.out; obtain ⟨qq7, rr7⟩ := row_at hPx (i := 7) rfl; have HPx := hid hPx; clear hPx; have HE7 := hid E7; have HO7 := hid o7; have HRr := hid r7; have HKk := hid k7; clear E7 o7 r7 k7))
 have hs0 := HPx.out
 have hs1 := row_put hs0 7 (.slice y7 j7 c7)
 have HP8 : Hid ((w8.setCell ⟨P, 7, none⟩ (.slice y7 j7 c7)).heap[P]? = some (.cells #[(.int .i64 y0), (.string y1), (.string y2), (.slice y3 j3 c3), (.slice y4 j4 c4), (.slice y5 j5 c5), (.slice y6 j6 c6), (.slice y7 j7 c7), (.int .i64 0), (.bool false), (.slice none 0 0)] 129 (0, 0))) := hs1
 have hks : Keep (fun k => k = P) w8 (w8.setCell ⟨P, 7, none⟩ (.slice y7 j7 c7)) := (Keep.refl (fun k => k = P) _).trans (Keep.set (X := fun k => k = P) _ ⟨P, 7, none⟩ (.slice y7 j7 c7) rfl)
 have HR8 := hid (HRr.out.keep hks (fun k e => by have e9 : k = P := e; omega))
 have HK8 := hid ((HK7.out.trans HKk.out).trans2 hks (fun k e => .inr (by have e9 : k = P := e; have := HBE.out; omega)))
 have hkk : Keep (fun k => k = Q ∨ k = P) u7 (w8.setCell ⟨P, 7, none⟩ (.slice y7 j7 c7)) := (HKk.out.mono (fun k _ e => .inl e)).trans (hks.mono (fun k _ e => .inr e))
 have hzz := (hkk.block B (lt_of_block HZ7.out) (fun e => by have e9 : B = Q ∨ B = P := e; omega)).trans HZ7.out
 have HZ8 := hid hzz
 clear hzz
 have HE0 := hid (EncN.hop (Nat.le_of_lt hQB) hkk HE0.out)
 have HE1 := hid (EncN.hop (Nat.le_of_lt hQB) hkk HE1.out)
 have HE2 := hid (EncN.hop (Nat.le_of_lt hQB) hkk HE2.out)
 have HE3 := hid (EncN.hop (Nat.le_of_lt hQB) hkk HE3.out)
 have HE4 := hid (EncN.hop (Nat.le_of_lt hQB) hkk HE4.out)
 have HE5 := hid (EncN.hop (Nat.le_of_lt hQB) hkk HE5.out)
 have HE6 := hid (EncN.hop (Nat.le_of_lt hQB) hkk HE6.out)
 have HE7 := hid (EncN.mono (N' := fun k => B < k ∧ k ≠ P ∧ k < (w8.setCell ⟨P, 7, none⟩ (.slice y7 j7 c7)).heap.size) (fun k hk => ⟨by have := lt_of_block HZ7.out; omega, by have := lt_of_block HP7.out; omega, Nat.lt_of_lt_of_le hk.2 hks.size⟩) _ (EncN.keep hks (fun k hk e => by have e9 : k = P := e; have := lt_of_block HP7.out; have := hk.1; omega) _ HE7.out))
 clear hs0 hs1 hks hkk HRr HKk HPx HP7 HR7 HK7 HZ7 CQ
 generalize w8.setCell ⟨P, 7, none⟩ (.slice y7 j7 c7) = u8 at *
 have CQ := hid (iint9_any HR8.out)
 go_upto_region 10 with (first | (go_at_call 33; refine CQ.out.mono ?_; rintro en w9 ⟨v, rfl, bb8, E8, o8, r8, k8⟩; obtain ⟨y8, rfl⟩ := form_int (EncN.enc _ E8); have hPx := (k8.block P (lt_of_block HP8.out) (fun e => by have e9 : P = Q := e; omega)).trans HP8.out; obtain ⟨qq8, rr8⟩ := row_at hPx (i := 8) rfl; have HPx := hid hPx; clear hPx; have HE8 := hid E8; have HO8 := hid o8; have HRr := hid r8; have HKk := hid k8; clear E8 o8 r8 k8))
 have hs0 := HPx.out
 have hs1 := row_put hs0 8 (.int .i64 y8)
 have HP9 : Hid ((w9.setCell ⟨P, 8, none⟩ (.int .i64 y8)).heap[P]? = some (.cells #[(.int .i64 y0), (.string y1), (.string y2), (.slice y3 j3 c3), (.slice y4 j4 c4), (.slice y5 j5 c5), (.slice y6 j6 c6), (.slice y7 j7 c7), (.int .i64 y8), (.bool false), (.slice none 0 0)] 129 (0, 0))) := hs1
 have hks : Keep (fun k => k = P) w9 (w9.setCell ⟨P, 8, none⟩ (.int .i64 y8)) := (Keep.refl (fun k => k = P) _).trans (Keep.set (X := fun k => k = P) _ ⟨P, 8, none⟩ (.int .i64 y8) rfl)
 have HR9 := hid (HRr.out.keep hks (fun k e => by have e9 : k = P := e; omega))
 have HK9 := hid ((HK8.out.trans HKk.out).trans2 hks (fun k e => .inr (by have e9 : k = P := e; have := HBE.out; omega)))
 have hkk : Keep (fun k => k = Q ∨ k = P) u8 (w9.setCell ⟨P, 8, none⟩ (.int .i64 y8)) := (HKk.out.mono (fun k _ e => .inl e)).trans (hks.mono (fun k _ e => .inr e))
 have hzz := (hkk.block B (lt_of_block HZ8.out) (fun e => by have e9 : B = Q ∨ B = P := e; omega)).trans HZ8.out
 have HZ9 := hid hzz
 clear hzz
 have HE0 := hid (EncN.hop (Nat.le_of_lt hQB) hkk HE0.out)
 have HE1 := hid (EncN.hop (Nat.le_of_lt hQB) hkk HE1.out)
 have HE2 := hid (EncN.hop (Nat.le_of_lt hQB) hkk HE2.out)
 have HE3 := hid (EncN.hop (Nat.le_of_lt hQB) hkk HE3.out)
 have HE4 := hid (EncN.hop (Nat.le_of_lt hQB) hkk HE4.out)
 have HE5 := hid (EncN.hop (Nat.le_of_lt hQB) hkk HE5.out)
 have HE6 := hid (EncN.hop (Nat.le_of_lt hQB) hkk HE6.out)
 have HE7 := hid (EncN.hop (Nat.le_of_lt hQB) hkk HE7.out)
 have HE8 := hid (EncN.mono (N' := fun k => B < k ∧ k ≠ P ∧ k < (w9.setCell ⟨P, 8, none⟩ (.int .i64 y8)).heap.size) (fun k hk => ⟨by have := lt_of_block HZ8.out; omega, by have := lt_of_block HP8.out; omega, Nat.lt_of_lt_of_le hk.2 hks.size⟩) _ (EncN.keep hks (fun k hk e => by have e9 : k = P := e; have := lt_of_block HP8.out; have := hk.1; omega) _ HE8.out))
 clear hs0 hs1 hks hkk HRr HKk HPx HP8 HR8 HK8 HZ8 CQ
 generalize w9.setCell ⟨P, 8, none⟩ (.int .i64 y8) = u9 at *
 have CQ := hid (ibool9_any HR9.out)
 go_upto_region 11 with (first | (go_at_call 34; refine CQ.out.mono ?_; rintro en w10 ⟨v, rfl, bb9, E9, o9, r9, k9⟩; obtain ⟨y9, rfl⟩ := form_bool (EncN.enc _ E9); have hPx := (k9.block P (lt_of_block HP9.out) (fun e => by have e9 : P = Q := e; omega)).trans HP9.out; obtain ⟨qq9, rr9⟩ := row_at hPx (i := 9) rfl; have HPx := hid hPx; clear hPx; have HE9 := hid E9; have HO9 := hid o9; have HRr := hid r9; have HKk := hid k9; clear E9 o9 r9 k9))
 have hs0 := HPx.out
 have hs1 := row_put hs0 9 (.bool y9)
 have HP10 : Hid ((w10.setCell ⟨P, 9, none⟩ (.bool y9)).heap[P]? = some (.cells #[(.int .i64 y0), (.string y1), (.string y2), (.slice y3 j3 c3), (.slice y4 j4 c4), (.slice y5 j5 c5), (.slice y6 j6 c6), (.slice y7 j7 c7), (.int .i64 y8), (.bool y9), (.slice none 0 0)] 129 (0, 0))) := hs1
 have hks : Keep (fun k => k = P) w10 (w10.setCell ⟨P, 9, none⟩ (.bool y9)) := (Keep.refl (fun k => k = P) _).trans (Keep.set (X := fun k => k = P) _ ⟨P, 9, none⟩ (.bool y9) rfl)
 have HR10 := hid (HRr.out.keep hks (fun k e => by have e9 : k = P := e; omega))
 have HK10 := hid ((HK9.out.trans HKk.out).trans2 hks (fun k e => .inr (by have e9 : k = P := e; have := HBE.out; omega)))
 have hkk : Keep (fun k => k = Q ∨ k = P) u9 (w10.setCell ⟨P, 9, none⟩ (.bool y9)) := (HKk.out.mono (fun k _ e => .inl e)).trans (hks.mono (fun k _ e => .inr e))
 have hzz := (hkk.block B (lt_of_block HZ9.out) (fun e => by have e9 : B = Q ∨ B = P := e; omega)).trans HZ9.out
 have HZ10 := hid hzz
 clear hzz
 have HE0 := hid (EncN.hop (Nat.le_of_lt hQB) hkk HE0.out)
 have HE1 := hid (EncN.hop (Nat.le_of_lt hQB) hkk HE1.out)
 have HE2 := hid (EncN.hop (Nat.le_of_lt hQB) hkk HE2.out)
 have HE3 := hid (EncN.hop (Nat.le_of_lt hQB) hkk HE3.out)
 have HE4 := hid (EncN.hop (Nat.le_of_lt hQB) hkk HE4.out)
 have HE5 := hid (EncN.hop (Nat.le_of_lt hQB) hkk HE5.out)
 have HE6 := hid (EncN.hop (Nat.le_of_lt hQB) hkk HE6.out)
 have HE7 := hid (EncN.hop (Nat.le_of_lt hQB) hkk HE7.out)
 have HE8 := hid (EncN.hop (Nat.le_of_lt hQB) hkk HE8.out)
 have HE9 := hid (EncN.mono (N' := fun k => B < k ∧ k ≠ P ∧ k < (w10.setCell ⟨P, 9, none⟩ (.bool y9)).heap.size) (fun k hk => ⟨by have := lt_of_block HZ9.out; omega, by have := lt_of_block HP9.out; omega, Nat.lt_of_lt_of_le hk.2 hks.size⟩) _ (EncN.keep hks (fun k hk e => by have e9 : k = P := e; have := lt_of_block HP9.out; have := hk.1; omega) _ HE9.out))
 clear hs0 hs1 hks hkk HRr HKk HPx HP9 HR9 HK9 HZ9 CQ
 generalize w10.setCell ⟨P, 9, none⟩ (.bool y9) = u10 at *
 have CQ := hid (ildata_any HR10.out)
 go_upto_region 12 with (first | (go_at_call 156; refine CQ.out.mono ?_; rintro en w11 ⟨v, rfl, bb10, E10, o10, r10, k10⟩; obtain ⟨y10, j10, c10, rfl⟩ := form_list (EncN.enc _ E10); have hPx := (k10.block P (lt_of_block HP10.out) (fun e => by have e9 : P = Q := e; omega)).trans HP10.out; obtain ⟨qq10, rr10⟩ := row_at hPx (i := 10) rfl; have HPx := hid hPx; clear hPx; have HE10 := hid E10; have HO10 := hid o10; have HRr := hid r10; have HKk := hid k10; clear E10 o10 r10 k10))
 have hs0 := HPx.out
 have hs1 := row_put hs0 10 (.slice y10 j10 c10)
 have HP11 : Hid ((w11.setCell ⟨P, 10, none⟩ (.slice y10 j10 c10)).heap[P]? = some (.cells #[(.int .i64 y0), (.string y1), (.string y2), (.slice y3 j3 c3), (.slice y4 j4 c4), (.slice y5 j5 c5), (.slice y6 j6 c6), (.slice y7 j7 c7), (.int .i64 y8), (.bool y9), (.slice y10 j10 c10)] 129 (0, 0))) := hs1
 have hks : Keep (fun k => k = P) w11 (w11.setCell ⟨P, 10, none⟩ (.slice y10 j10 c10)) := (Keep.refl (fun k => k = P) _).trans (Keep.set (X := fun k => k = P) _ ⟨P, 10, none⟩ (.slice y10 j10 c10) rfl)
 have HR11 := hid (HRr.out.keep hks (fun k e => by have e9 : k = P := e; omega))
 have HK11 := hid ((HK10.out.trans HKk.out).trans2 hks (fun k e => .inr (by have e9 : k = P := e; have := HBE.out; omega)))
 have hkk : Keep (fun k => k = Q ∨ k = P) u10 (w11.setCell ⟨P, 10, none⟩ (.slice y10 j10 c10)) := (HKk.out.mono (fun k _ e => .inl e)).trans (hks.mono (fun k _ e => .inr e))
 have hzz := (hkk.block B (lt_of_block HZ10.out) (fun e => by have e9 : B = Q ∨ B = P := e; omega)).trans HZ10.out
 have HZ11 := hid hzz
 clear hzz
 have HE0 := hid (EncN.hop (Nat.le_of_lt hQB) hkk HE0.out)
 have HE1 := hid (EncN.hop (Nat.le_of_lt hQB) hkk HE1.out)
 have HE2 := hid (EncN.hop (Nat.le_of_lt hQB) hkk HE2.out)
 have HE3 := hid (EncN.hop (Nat.le_of_lt hQB) hkk HE3.out)
 have HE4 := hid (EncN.hop (Nat.le_of_lt hQB) hkk HE4.out)
 have HE5 := hid (EncN.hop (Nat.le_of_lt hQB) hkk HE5.out)
 have HE6 := hid (EncN.hop (Nat.le_of_lt hQB) hkk HE6.out)
 have HE7 := hid (EncN.hop (Nat.le_of_lt hQB) hkk HE7.out)
 have HE8 := hid (EncN.hop (Nat.le_of_lt hQB) hkk HE8.out)
 have HE9 := hid (EncN.hop (Nat.le_of_lt hQB) hkk HE9.out)
 have HE10 := hid (EncN.mono (N' := fun k => B < k ∧ k ≠ P ∧ k < (w11.setCell ⟨P, 10, none⟩ (.slice y10 j10 c10)).heap.size) (fun k hk => ⟨by have := lt_of_block HZ10.out; omega, by have := lt_of_block HP10.out; omega, Nat.lt_of_lt_of_le hk.2 hks.size⟩) _ (EncN.keep hks (fun k hk e => by have e9 : k = P := e; have := lt_of_block HP10.out; have := hk.1; omega) _ HE10.out))
 clear hs0 hs1 hks hkk HRr HKk HPx HP10 HR10 HK10 HZ10 CQ
 generalize w11.setCell ⟨P, 10, none⟩ (.slice y10 j10 c10) = u11 at *
 have LD := cells_load (cs := [(.int .i64 y0), (.string y1), (.string y2), (.slice y3 j3 c3), (.slice y4 j4 c4), (.slice y5 j5 c5), (.slice y6 j6 c6), (.slice y7 j7 c7), (.int .i64 y8), (.bool y9), (.slice y10 j10 c10)]) (fun i u hi => (row_at HP11.out hi).1) Tryz.underlying129 rfl (by kernel_rfl)
 have HLD := hid LD
 clear LD
 have HSF := hid (setRow_heap u11 B _ (#[(.int .i64 y0), (.string y1), (.string y2), (.slice y3 j3 c3), (.slice y4 j4 c4), (.slice y5 j5 c5), (.slice y6 j6 c6), (.slice y7 j7 c7), (.int .i64 y8), (.bool y9), (.slice y10 j10 c10)] : Array Value) _ _ HZ11.out)
 have HKS := hid (setRow_keep u11 B (#[(.int .i64 y0), (.string y1), (.string y2), (.slice y3 j3 c3), (.slice y4 j4 c4), (.slice y5 j5 c5), (.slice y6 j6 c6), (.slice y7 j7 c7), (.int .i64 y8), (.bool y9), (.slice y10 j10 c10)] : Array Value))
 have HZZ : Hid (u11.heap[B]? = some (.cells (#[(.int .i64 0), (.string ⟨#[]⟩), (.string ⟨#[]⟩), (.slice none 0 0), (.slice none 0 0), (.slice none 0 0), (.slice none 0 0), (.slice none 0 0), (.int .i64 0), (.bool false), (.slice none 0 0)] : Array Value) 129 (0, 0))) := HZ11
 apply wp_region_lit
 refine Great.wpList_readTo rfl (some 37) rfl (.agg #[(.int .i64 y0), (.string y1), (.string y2), (.slice y3 j3 c3), (.slice y4 j4 c4), (.slice y5 j5 c5), (.slice y6 j6 c6), (.slice y7 j7 c7), (.int .i64 y8), (.bool y9), (.slice y10 j10 c10)]) (exec_load rfl HLD.out) ?_
 simp only [Act.put, jA, jB, jC, jD, jE, jF]
 refine Go.wpList_store_rowTo rfl 129 _ _ rfl rfl B #[(.int .i64 y0), (.string y1), (.string y2), (.slice y3 j3 c3), (.slice y4 j4 c4), (.slice y5 j5 c5), (.slice y6 j6 c6), (.slice y7 j7 c7), (.int .i64 y8), (.bool y9), (.slice y10 j10 c10)] rfl rfl 129 #[(.int .i64 0), (.string ⟨#[]⟩), (.string ⟨#[]⟩), (.slice none 0 0), (.slice none 0 0), (.slice none 0 0), (.slice none 0 0), (.slice none 0 0), (.int .i64 0), (.bool false), (.slice none 0 0)] HZZ.out (by as_aux_lemma => kernel_rfl) rfl (by simp [Value.oneCell']) ?_
 generalize u11.setRow B #[(.int .i64 y0), (.string y1), (.string y2), (.slice y3 j3 c3), (.slice y4 j4 c4), (.slice y5 j5 c5), (.slice y6 j6 c6), (.slice y7 j7 c7), (.int .i64 y8), (.bool y9), (.slice y10 j10 c10)] = uZ at *
 go_wp2_with fail
 refine bodyPost_ret (results_cell_row rfl _ _ B 129 _ (0, 0) _ rfl HSF.out Tryz.underlying129 rfl (by kernel_rfl)) rfl ?_
 have hfin : ∀ (s : Sh) (cs : List Value) (bs : List UInt8), EncN (fun k => B < k ∧ k ≠ P ∧ k < u11.heap.size) u11 s cs bs → EncN (fun k => w.heap.size ≤ k ∧ k < uZ.heap.size) uZ s cs bs := fun s cs bs h9 => EncN.mono (fun k hk => ⟨by have := HBE.out; have := hk.1; omega, Nat.lt_of_lt_of_le hk.2.2 HKS.out.size⟩) s (EncN.keep HKS.out (fun k hk e => by have e9 : k = B := e; have := hk.1; omega) s h9)
 have hF : FinI (fun k => w.heap.size ≤ k ∧ k < uZ.heap.size) uZ sOp st [(.int .i64 y0), (.string y1), (.string y2), (.slice y3 j3 c3), (.slice y4 j4 c4), (.slice y5 j5 c5), (.slice y6 j6 c6), (.slice y7 j7 c7), (.int .i64 y8), (.bool y9), (.slice y10 j10 c10)] _ := FinI.cons (hfin _ _ _ HE0.out) HO0.out (FinI.cons (hfin _ _ _ HE1.out) HO1.out (FinI.cons (hfin _ _ _ HE2.out) HO2.out (FinI.cons (hfin _ _ _ HE3.out) HO3.out (FinI.cons (hfin _ _ _ HE4.out) HO4.out (FinI.cons (hfin _ _ _ HE5.out) HO5.out (FinI.cons (hfin _ _ _ HE6.out) HO6.out (FinI.cons (hfin _ _ _ HE7.out) HO7.out (FinI.cons (hfin _ _ _ HE8.out) HO8.out (FinI.cons (hfin _ _ _ HE9.out) HO9.out (FinI.cons (hfin _ _ _ HE10.out) HO10.out FinI.nil))))))))))
 obtain ⟨b, g1, g2, g3⟩ := hF
 refine ⟨[(.int .i64 y0), (.string y1), (.string y2), (.slice y3 j3 c3), (.slice y4 j4 c4), (.slice y5 j5 c5), (.slice y6 j6 c6), (.slice y7 j7 c7), (.int .i64 y8), (.bool y9), (.slice y10 j10 c10)], rfl, b, g1, g2, ?_, HK11.out.trans2 HKS.out (fun k e => .inr (by have e9 : k = B := e; have := HBE.out; omega))⟩
 rw [g3]
 exact HR11.out.keep HKS.out (fun k e => by have e9 : k = B := e; omega)
end Go.Proofs.YtmdgifmigikffaaGreat
namespace Go.Proofs.YtmdgifmigikffaaGreat
open Go.RowKit Go.Deep
set_option maxHeartbeats 8000000 in
theorem ilOp_any {w : World} {Q : Nat} {st : Rst} (h : RI w Q st) :
 Calls Tryz.prog 51 #[.pointer (some ⟨Q, 0, none⟩)] w (fun en w' => ∃ v, en = .returned v ∧ RdI (.list sOp) Q w st [v] w') := by
 obtain ⟨i0, hi0, hz0, hz1, hz2⟩ : ∃ i0, Tryz.prog.info? 129 = some i0 ∧ i0.zero = some (.agg #[.int .i64 0, .string .empty, .string .empty, .slice none 0 0, .slice none 0 0, .slice none 0 0, .slice none 0 0, .slice none 0 0, .int .i64 0, .bool false, .slice none 0 0]) ∧ i0.size = 11 ∧ i0.bytes = 200 := by
  have h9 : (Tryz.prog.info? 129).map (fun i => (i.zero, i.size, i.bytes)) = some (some (.agg #[.int .i64 0, .string .empty, .string .empty, .slice none 0 0, .slice none 0 0, .slice none 0 0, .slice none 0 0, .slice none 0 0, .int .i64 0, .bool false, .slice none 0 0]), 11, 200) := by kernel_rfl
  cases hq : Tryz.prog.info? 129 with
  | none => rw [hq] at h9; cases h9
  | some q => rw [hq] at h9; simp at h9; exact ⟨q, rfl, h9⟩
 have HI0 := hid (And.intro hi0 (And.intro hz0 (And.intro hz1 hz2)))
 clear hi0 hz0 hz1 hz2
 have hQw := h.lt
 have CM := hid (imany9_any h)
 obtain ⟨n, hn⟩ : ∃ n, n = (lookS 5000 st.1 st.2).1 := ⟨_, rfl⟩
 obtain ⟨s1, hs1⟩ : ∃ s1 : Rst, s1 = (st.1.drop (lookS 5000 st.1 st.2).2.1, (lookS 5000 st.1 st.2).2.2) := ⟨_, rfl⟩
 have hn5 : n ≤ 5000 := by rw [hn]; exact lookS_most _ _ _
 have hns : s1.2 ≠ 0 → n = 0 := fun e => by rw [hs1] at e; rw [hn]; exact look_fault2 _ _ _ e
 unfold IMany at CM
 rw [← hn, ← hs1] at CM
 have HN := hid (And.intro hn (And.intro hs1 hns))
 clear hn hs1 hns h
 go_enter Tryz.func51, Tryz.ntmps51
 go_wp2_with (first | (go_at_call 99; refine CM.out.mono ?_; rintro en w1 ⟨rfl, hr, hk⟩; have HR := hid hr; have HK := hid hk; clear hr hk))
 go_loopw [3, 5] (fun x i wr => ∃ (k : Nat) (M : List (List Value × List UInt8)) (ao : Option Addr) (c : Nat) (sk : Rst), x = .slice ao k c ∧ i = .int .i64 (k : Int) ∧ ILp sOp 129 Q w n s1 wr k M ao c sk) (fun _ i _ => n - (intOf i).toNat)
 case atStart => exact ⟨0, [], none, 0, s1, rfl, rfl, ILp.begin HR.out HK.out HN.out.2.2⟩
 case round =>
  obtain ⟨k, M, ao, c, sk, rfl, rfl, ht⟩ := hrel
  have hk := ht.le
  have HT := hid ht
  have CF := hid (ifault_any ht.ri)
  clear ht
  by_cases hlt : k < n
  · have hki : (k : Int) < (n : Int) := by omega
    by_cases hf : sk.2 = 0
    · rw [show decide (sk.2 ≠ 0) = false from by simp [hf]] at CF
      have HF := hid hf
      clear hf
      have CE := hid (istOp_any HT.out.ri)
      go_wp2_with (first
       | (go_at_call 76; refine CF.out.mono ?_; rintro en wf ⟨rfl, rfl⟩)
       | (go_at_call 118; refine CE.out.mono ?_; rintro en w2 ⟨mc, rfl, bb, E, ob, r1, k1⟩; obtain ⟨vv0, vv1, vv2, vv3, vv4, vv5, vv6, vv7, vv8, vv9, vv10, bv0, bv1, bv2, bv3, bv4, bv5, bv6, bv7, bv8, bv9, bv10, rfl, _, ev0, ev1, ev2, ev3, ev4, ev5, ev6, ev7, ev8, ev9, ev10⟩ := Op_cells (EncN.enc _ E); obtain ⟨y0, rfl⟩ := form_int ev0; obtain ⟨y1, rfl⟩ := form_name ev1; obtain ⟨y2, rfl⟩ := form_name ev2; obtain ⟨y3, j3, c3, rfl⟩ := form_list ev3; obtain ⟨y4, j4, c4, rfl⟩ := form_list ev4; obtain ⟨y5, j5, c5, rfl⟩ := form_list ev5; obtain ⟨y6, j6, c6, rfl⟩ := form_list ev6; obtain ⟨y7, j7, c7, rfl⟩ := form_list ev7; obtain ⟨y8, rfl⟩ := form_int ev8; obtain ⟨y9, rfl⟩ := form_bool ev9; obtain ⟨y10, j10, c10, rfl⟩ := form_list ev10; clear ev0 ev1 ev2 ev3 ev4 ev5 ev6 ev7 ev8 ev9 ev10; have HE := hid E; have HO := hid ob; have HR1 := hid r1; have HK1 := hid k1; have HB3 := hid ((Below.refl _ w2).alloc (Nat.le_refl _) (.cells #[(.int .i64 y0), (.string y1), (.string y2), (.slice y3 j3 c3), (.slice y4 j4 c4), (.slice y5 j5 c5), (.slice y6 j6 c6), (.slice y7 j7 c7), (.int .i64 y8), (.bool y9), (.slice y10 j10 c10)] 129)); have HOW := hid (own_old (own_keep (X := fun j => j = Q) HT.out.own k1 (fun j e e9 => by have e8 : j = Q := e9; have := (HT.out.own.lt j e).1; omega)) HB3.out); have HSZ := hid (show w.heap.size ≤ (w2.alloc (.cells #[(.int .i64 y0), (.string y1), (.string y2), (.slice y3 j3 c3), (.slice y4 j4 c4), (.slice y5 j5 c5), (.slice y6 j6 c6), (.slice y7 j7 c7), (.int .i64 y8), (.bool y9), (.slice y10 j10 c10)] 129)).heap.size from Nat.le_trans HT.out.keep.size (Nat.le_trans k1.size HB3.out.size)); clear E ob r1 k1)
       | (at_builtin; refine wp_app1 rfl _ _ 60 rfl w.heap.size 129 Tryz.underlying60 HI0.out.1 HI0.out.2.1 HI0.out.2.2.1 HI0.out.2.2.2 (by simp [Value.cells]) (by decide) _ k _ rfl HOW.out w2.heap.size [(.int .i64 y0), (.string y1), (.string y2), (.slice y3 j3 c3), (.slice y4 j4 c4), (.slice y5 j5 c5), (.slice y6 j6 c6), (.slice y7 j7 c7), (.int .i64 y8), (.bool y9), (.slice y10 j10 c10)] rfl (heap_alloc_new w2 (.cells #[(.int .i64 y0), (.string y1), (.string y2), (.slice y3 j3 c3), (.slice y4 j4 c4), (.slice y5 j5 c5), (.slice y6 j6 c6), (.slice y7 j7 c7), (.int .i64 y8), (.bool y9), (.slice y10 j10 c10)] 129)) rfl (fun u hu => by simp only [List.mem_cons, List.not_mem_nil, or_false] at hu; rcases hu with rfl | rfl | rfl | rfl | rfl | rfl | rfl | rfl | rfl | rfl | rfl <;> rfl) (by omega) (by decide) HSZ.out ?_; intro g cap w4 o4 g4 gg; have HX := hid (HT.out.next hQw hlt HF.out HE.out HO.out HR1.out HK1.out HB3.out o4 g4 gg); clear o4 g4 gg))
      go_roundw
      case rel => exact ⟨k + 1, _, _, _, _, rfl, by go_num, HX.out⟩
      case measure => simp [intOf]; omega
    · rw [show decide (sk.2 ≠ 0) = true from by simp [hf]] at CF
      have HF := hid hf
      clear hf
      go_wp2_with (first | (go_at_call 76; refine CF.out.mono ?_; rintro en wf ⟨rfl, rfl⟩))
      go_ret
      have hT := HT.out
      rw [HN.out.1, HN.out.2.1] at hT
      exact ⟨_, rfl, hT.done (.inr HF.out)⟩
  · have hki : ¬ (k : Int) < (n : Int) := by omega
    go_wp2_with fail
    go_ret
    have hkn : k = n := by omega
    have hT := HT.out
    rw [HN.out.1, HN.out.2.1] at hT
    exact ⟨_, rfl, hT.done (.inl (hkn.trans HN.out.1))⟩
end Go.Proofs.YtmdgifmigikffaaGreat
