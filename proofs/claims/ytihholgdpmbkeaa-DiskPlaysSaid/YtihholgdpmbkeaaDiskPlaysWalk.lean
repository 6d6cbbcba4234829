/-
  THE LAW DiskPlays: its walk.
-/
import Derived.LoopN
import Derived.Sort.CutIn
import Derived.Deep.CutBlock
import Derived.Deep.RegionWith
import Derived.Deep.CutRange
import Derived.Test.YtihholgdpmbkeaaDpl
import Derived.Test.YtihholgdpmbkeaaDops
import Derived.Test.YtihholgdpmbkeaaDa
import Derived.Test.YtihholgdpmbkeaaOb
set_option linter.unusedVariables false
set_option maxRecDepth 100000
namespace Go.Proofs.Ytihholgdpmbkeaa
open Go.RowKit Go.Shelf

namespace diskPlays
theorem new_bad (z : Int) (h : ¬ (1 ≤ z ∧ z ≤ 65536)) (w : World) : Calls Try.prog 7 #[.int .i64 z] w (fun e w' => e = .returned (.tuple #[.pointer none, .int .i64 1]) ∧ w' = w) := by
  by_cases h1 : z < 1
  · clear h
    go_enter Try.func7, Try.ntmps7
    go_wp2_with fail
    go_ret2
    exact ⟨rfl, rfl⟩
  · have h2 : 65536 < z := by omega
    clear h
    go_enter Try.func7, Try.ntmps7
    go_wp2_with fail
    go_ret2
    exact ⟨rfl, rfl⟩

theorem bytes_any (x y : Value) (l : List UInt8) (w : World) (hx : Rd w x l) (hy : Rd w y l) :
    Calls Try.prog 12 #[x, y] w fun e w' => e = .returned (.bool true) ∧ w' = w := by
  have c1 := hx.conv (P := Try.prog) 30 9 5 Try.underlying30 Try.underlying5 Try.underlying9
  have c2 := hy.conv (P := Try.prog) 30 9 5 Try.underlying30 Try.underlying5 Try.underlying9
  go_enter Try.func12, Try.ntmps12
  go_wp2_with fail
  go_ret
  exact ⟨by simp, rfl⟩

theorem two_new {w w1 w2 w3 : World} {n db sb rb tb : Nat} (hd : Dk w.heap.size w1 db sb n (.slice none 0 0) (List.replicate n (List.replicate 64 0)) [] false 0) (hb1 : Below w.heap.size w w1) (hb2 : Below w1.heap.size w1 w2)
    (hr : Rk w3 rb tb n (.slice none 0 0) (List.replicate n (List.replicate 64 0)) [] false 0) (h1 : w2.heap.size ≤ rb) (h2 : w2.heap.size ≤ tb) (hb3 : Below w2.heap.size w2 w3) : Two w n 0 (.pointer (some ⟨db, 0, none⟩)) (.pointer (some ⟨rb, 0, none⟩)) w3 := by
  have hb23 : Below w1.heap.size w1 w3 := hb2.trans (hb3.mono hb2.size)
  have hws : w.heap.size ≤ w2.heap.size := Nat.le_trans hb1.size hb2.size
  have hlow : ∀ j, DX rb tb (.slice none 0 0) j → w2.heap.size ≤ j := fun j hj => by
    rcases hj with rfl | rfl | hj
    · exact h1
    · exact h2
    · cases hj
  refine ⟨⟨db, sb, rb, tb, _, _, _, _, _, _, _, rfl, rfl, ⟨hb1.trans (hb23.mono hb1.size), hd.old hb23, hr, fun j hj hk => ?_, fun j hj => Nat.le_trans hws (hlow j hj)⟩, ?_, by omega, by simp⟩⟩
  · have a1 := (hd.lt j hj).2
    have a2 := hlow j hk
    have a3 := hb2.size
    omega
  · rw [List.take_replicate, Nat.min_self]
    exact Rel.new _

set_option maxHeartbeats 64000000 in
theorem walk0 (z : Int) (x : Value) (M : List Lop) (w : World) (hx : Ops w x M) :
    Calls Try.prog 3 #[.int .i64 z, x] w (AnsP w (.bool true)) := by
  obtain ⟨xo, xc, rfl, hmx⟩ := hx.form
  unfold maxLen at hmx
  by_cases hz : 1 ≤ z ∧ z ≤ 65536
  · obtain ⟨n, rfl⟩ : ∃ n : Nat, z = (n : Int) := ⟨z.toNat, by omega⟩
    have hn1 : 1 ≤ n := by omega
    have hn2 : n ≤ 65536 := by omega
    have hz1 : (1 : Int) ≤ (n : Int) := hz.1
    have hz2 : (n : Int) ≤ 65536 := hz.2
    have CN := hid (new_any n hn1 hn2 w)
    have HX := hid hx
    have hlen := fun W => run_len_slice (P := Try.prog) W 22 3 xo M.length xc Try.underlying22
    clear hz hx
    go_enter Try.func3, Try.ntmps3
    go_wp2_with (first | (go_at_call 7; refine CN.out.mono ?_))
    rintro e w1 ⟨db0, sb0, rfl, hD1, hb1⟩
    have HD1 := hid hD1
    have HB1 := hid hb1
    clear hD1 hb1
    go_wp2_with (first | (go_at_call 8; refine (awake_any w1).mono ?_))
    rintro e w2 ⟨rfl, hb2⟩
    have HB2 := hid hb2
    clear hb2
    have CR := hid (rnew_any n hn2 w2)
    go_wp2_with (first | (go_at_call 9; refine CR.out.mono ?_))
    rintro e w3 ⟨rb, tb, rfl, hR3, hrb, htb, hb3⟩
    have HT3 := hid (two_new HD1.out HB1.out HB2.out hR3 hrb htb hb3)
    clear hR3 hrb htb hb3
    go_wp2_with fail
    go_loopw [5, 8] (fun d i wr => ∃ (k db : Nat), k ≤ M.length ∧ k ≤ 120 ∧ d = .pointer (some ⟨db, 0, none⟩) ∧ i = .int .i64 (k : Int) ∧ Hid (Two w n k (.pointer (some ⟨db, 0, none⟩)) (.pointer (some ⟨rb, 0, none⟩)) wr)) (fun _ i _ => M.length - (intOf i).toNat)
    case atStart => exact ⟨0, db0, by omega, by omega, rfl, rfl, HT3⟩
    case round =>
      obtain ⟨k, db, hk, hk2, rfl, rfl, HT⟩ := hrel
      by_cases hlt : k < M.length
      · by_cases hl2 : k < 120
        · have hlt' : (k : Int) < (M.length : Int) := by omega
          have hl2' : (k : Int) < 120 := by omega
          have hv := List.getElem?_eq_getElem hlt
          generalize M[k] = o at *
          obtain ⟨db9, sb, rb9, tb9, vw, wv, S, T, Q, dn, lf, e1, e2, hA, hrel, hlf, hql⟩ := HT.out.ex
          simp only [Value.pointer.injEq, Option.some.injEq, Addr.mk.injEq, and_true] at e1 e2
          subst e1
          subst e2
          obtain ⟨b, off, rfl, d0, d1, d2, d3⟩ := (HX.out.old hA.bel).get hv
          have HRO0 := hid (HX.out.at hv)
          have HREL := hid hrel
          have hA0 := hid hA
          clear hv hA hrel
          go_upto_region 11 with fail
          have hbO : Below wr.heap.size wr (wr.alloc (.cells #[.int .i64 o.kind, .int .i64 o.at', .slice o.ba o.B.length o.bc, .slice o.ka o.K.length o.kc] 33)) := (Below.refl _ _).alloc (Nat.le_refl _) _
          have hxO : (wr.alloc (.cells #[.int .i64 o.kind, .int .i64 o.at', .slice o.ba o.B.length o.bc, .slice o.ka o.K.length o.kc] 33)).heap[wr.heap.size]? = some (.cells #[.int .i64 o.kind, .int .i64 o.at', .slice o.ba o.B.length o.bc, .slice o.ka o.K.length o.kc] 33 (0, 0)) := heap_alloc_new _ _
          generalize wr.alloc (.cells #[.int .i64 o.kind, .int .i64 o.at', .slice o.ba o.B.length o.bc, .slice o.ka o.K.length o.kc] 33) = wo at *
          have HA := hid (hA0.out.old hbO)
          have HXO := hid hxO
          have HOB : Hid (¬ XX db sb vw rb tb9 wv wr.heap.size) := fun hj => by have := (hA0.out.lt _ hj).2; omega
          have hob : wr.heap.size < wo.heap.size := lt_of_block hxO
          clear d0 d1 d2 d3 hxO hbO
          generalize wr.heap.size = ob at *
          obtain ⟨q0, q1, q2, q3, -, -, -, -⟩ := four_cells HXO.out
          go_upto_block 2 with fail
          clear q0 q1 q2 q3
          go_cut [5, 10, 11, 12, 13, 14, 15, 16, 17, 18] from 68 to 189 (fun d ok _ _ _ _ _ _ _ _ wx => ∃ db' : Nat, d = .pointer (some ⟨db', 0, none⟩) ∧ ok = .bool true ∧ Hid (Two w n (k + 1) (.pointer (some ⟨db', 0, none⟩)) (.pointer (some ⟨rb, 0, none⟩)) wx))
          case first =>
            by_cases h1 : o.kind = 1
            · have h1' : (o.kind == 1) = true := by simpa using h1
              obtain ⟨q0, q1, q2, q3, -, -, -, -⟩ := four_cells HXO.out
              have hd0 := dread_all HA.out.d o.at'
              rw [HREL.out.1] at hd0
              obtain ⟨LL, hLL⟩ : ∃ LL, LL = rL n dn (shM T Q) o.at' := ⟨_, rfl⟩
              obtain ⟨ee, hee⟩ : ∃ ee, ee = rE n dn o.at' := ⟨_, rfl⟩
              have hll : LL.length ≤ 64 := by
                rw [hLL]
                unfold rL
                split
                · simp
                · split
                  · rename_i h9
                    rw [List.getD]
                    cases h8 : (shM T Q)[o.at'.toNat]? with
                    | none => simp
                    | some s8 => have := sh_all HA.out.r.len (fun x hx => (HA.out.r.ok x hx).2) s8 (List.mem_of_getElem? h8); simp; omega
                  · simp
              unfold ReadAll at hd0
              rw [← hLL, ← hee] at hd0
              have CD := hid hd0
              have HLE := hid (And.intro hLL (And.intro hee hll))
              clear hd0 hLL hee hll
              go_wp2_with (first | (go_at_call 10; refine CD.out.mono ?_))
              rintro e w7 ⟨x7, rfl, hx7, hb7⟩
              obtain ⟨xo7, xc7, rfl⟩ := own_form hx7
              have HX7 := hid (And.intro (hb7.block _ hob |>.trans HXO.out) hx7)
              have HA7 := hid (HA.out.old hb7)
              have HB7 := hid hb7
              clear hx7 hb7 q0 q1 q2 q3
              have hr0 := rread_all HA7.out.r o.at' (by omega)
              unfold ReadAll at hr0
              rw [← HLE.out.1, ← HLE.out.2.1] at hr0
              have CR := hid hr0
              obtain ⟨q0, q1, q2, q3, -, -, -, -⟩ := four_cells HX7.out.1
              clear hr0
              go_wp2_with (first | (go_at_call 11; refine CR.out.mono ?_))
              rintro e w8 ⟨x8, rfl, hx8, hb8⟩
              obtain ⟨xo8, xc8, rfl⟩ := own_form hx8
              have CB := hid (bytes_any _ _ LL w8 ((Rd.own HX7.out.2).old hb8) (Rd.own hx8))
              have CS := hid (spoil_own w8 wo.heap.size (.slice xo7 LL.length xc7) LL (own_old HX7.out.2 hb8) (by have := HLE.out.2.2; omega))
              have HB8 := hid hb8
              have HO7 := hid (fun k (hk : (Value.slice xo7 LL.length xc7).ownBlock = some k) => HX7.out.2.lt k hk)
              clear hx8 hb8 q0 q1 q2 q3
              go_wp2_with (first
                | (go_at_call 12; refine CB.out.mono ?_; rintro e w9 ⟨rfl, rfl⟩)
                | (go_at_call 13; refine CS.out.mono ?_))
              rintro e w10 ⟨rfl, hg⟩
              have HB : Hid (Below wo.heap.size wo w10) := below_on2 (HB7.out) HB8.out |>.grown hg (Nat.le_trans HB7.out.size HB8.out.size) (fun k hk => (HO7.out k hk).1)
              clear hg
              go_wp2_with fail
              go_meet
              exact ⟨db, rfl, rfl, ⟨⟨db, sb, rb, tb9, _, _, _, _, _, _, _, rfl, rfl, HA.out.old HB.out, HREL.out, hlf, by omega⟩⟩⟩
            · skip
              by_cases h2 : o.kind = 2
              · have h2' : (o.kind == 2) = true := by simpa using h2
                have h1' : (o.kind == 1) = false := by simpa using h1
                have CF := hid (dflush_all HA.out.d hlf)
                have hfq := fQ_le (dn := dn) (lf := lf) (Q := Q)
                obtain ⟨ee, hee⟩ : ∃ ee, ee = fE dn lf := ⟨_, rfl⟩
                rw [← hee] at CF
                have HRF := hid (rel_f (dn := dn) (lf := lf) HREL.out)
                have HFF := hid (And.intro (fF_le (dn := dn) hlf) (And.intro hfq hee))
                clear hee hfq
                go_wp2_with (first | (go_at_call 14; refine CF.out.mono ?_))
                rintro e w4 ⟨rfl, vw4, hD4, hF4⟩
                have hA4 := HA.out.left hD4 hF4
                have hc0 := rflush_all hA4.r hlf (by omega)
                rw [← HFF.out.2.2] at hc0
                have CR := hid hc0
                have HA4 := hid hA4
                clear hD4 hF4 hA4 hc0
                go_wp2_with (first | (go_at_call 15; refine CR.out.mono ?_))
                rintro e w5 ⟨rfl, wv5, hR5, hF5⟩
                have HA5 := hid (HA4.out.right hR5 hF5)
                clear hR5 hF5
                go_wp2_with fail
                go_meet
                exact ⟨db, rfl, by simp, ⟨⟨db, sb, rb, tb9, _, _, _, _, _, _, _, rfl, rfl, HA5.out, HRF.out, HFF.out.1, by have := HFF.out.2.1; omega⟩⟩⟩
              · skip
                by_cases h3 : o.kind = 3
                · have h3' : (o.kind == 3) = true := by simpa using h3
                  have h1' : (o.kind == 1) = false := by simpa using h1
                  have h2' : (o.kind == 2) = false := by simpa using h2
                  have hwf := HRO0.out.wf
                  obtain ⟨c0, c1, c2, c3, f0, f1, f2, f3⟩ := four_cells HA.out.r.hd
                  obtain ⟨mm, hmm⟩ : ∃ m : Nat, m = (max o.at' 0).toNat := ⟨_, rfl⟩
                  have hmI : ((mm : Nat) : Int) = max o.at' 0 := by omega
                  have h9 := HA.out.r.set2 mm
                  have hA4 := HA.out.right h9 (Dfr.set rb tb9 wv wo 2 _)
                  have hx4 : (wo.setCell ⟨rb, 2, none⟩ (.int .i64 (mm : Int))).heap[ob]? = some (.cells #[.int .i64 o.kind, .int .i64 o.at', .slice o.ba o.B.length o.bc, .slice o.ka o.K.length o.kc] 33 (0, 0)) := (Below.heap_setCell _ ⟨rb, 2, none⟩ _ ob (fun e => HOB.out (.inr (.inl e)))).trans HXO.out
                  have h10 := arm_any hA4.d o.at'
                  rw [← hmm] at h10
                  have HA4 := hid hA4
                  have HMM : Hid (mm ≤ 9223372036854775807) := by show _ ≤ _; omega
                  obtain ⟨q0, q1, q2, q3, -, -, -, -⟩ := four_cells HXO.out
                  obtain ⟨p0, p1, p2, p3, -, -, -, -⟩ := four_cells hx4
                  rw [hmI] at p0 p1 p2 p3 h10
                  have HMI := hid hmI
                  have CA := hid h10
                  clear h9 hA4 hx4 h10 hwf hmm hmI
                  rcases (by omega : 0 ≤ o.at' ∨ o.at' < 0) with hs | hs
                  · have e : max o.at' 0 = o.at' := by omega
                    have e3 : max 0 o.at' = o.at' := by omega
                    have e4 : ¬ (o.at' < 0) := by omega
                    rw [e] at p0 p1 p2 p3 CA HMI
                    rw [HMI.out] at HA4
                    go_wp2_with (first | (go_at_call 16; refine CA.out.mono ?_; rintro e w5 ⟨rfl, hD5, hF5⟩; have HA5 := hid (HA4.out.left hD5 hF5); clear hD5 hF5))
                    go_wp2_with fail
                    go_meet
                    exact ⟨db, rfl, rfl, ⟨⟨db, sb, rb, tb9, _, _, _, _, _, _, _, rfl, rfl, HA5.out, HREL.out, HMM.out, by omega⟩⟩⟩
                  · have e : max o.at' 0 = 0 := by omega
                    have e3 : max 0 o.at' = 0 := by omega
                    rw [e] at p0 p1 p2 p3 CA HMI
                    rw [HMI.out] at HA4
                    go_wp2_with (first | (go_at_call 16; refine CA.out.mono ?_; rintro e w5 ⟨rfl, hD5, hF5⟩; have HA5 := hid (HA4.out.left hD5 hF5); clear hD5 hF5))
                    go_wp2_with fail
                    go_meet
                    exact ⟨db, rfl, rfl, ⟨⟨db, sb, rb, tb9, _, _, _, _, _, _, _, rfl, rfl, HA5.out, HREL.out, HMM.out, by omega⟩⟩⟩
                · skip
                  by_cases h4 : o.kind = 4
                  · have h4' : (o.kind == 4) = true := by simpa using h4
                    have h1' : (o.kind == 1) = false := by simpa using h1
                    have h2' : (o.kind == 2) = false := by simpa using h2
                    have h3' : (o.kind == 3) = false := by simpa using h3
                    obtain ⟨q0, q1, q2, q3, -, -, -, -⟩ := four_cells HXO.out
                    have hro := HRO0.out.old HA.out.bel
                    have CO := hid (owni_any (.slice o.ka o.K.length o.kc) o.K 71 wo hro.k (by have := hro.few; omega))
                    clear hro
                    go_wp2_with (first | (go_at_call 17; refine CO.out.mono ?_))
                    rintro e w4 ⟨g, rfl, hg1, ho4, hb4⟩
                    have hA4 := HA.out.old hb4
                    have HX4 := hid ((hb4.block _ hob).trans HXO.out)
                    have HG : Hid (¬ XX db sb vw rb tb9 wv g ∧ g < w4.heap.size) := ⟨fun hj => by have := (HA.out.lt _ hj).2; omega, (ho4.lt g rfl).2⟩
                    have hro := HRO0.out.old hA4.bel
                    have CR := hid (rcrash_gen hA4.r (.slice o.ka o.K.length o.kc) o.K hro.k (fun hne k hk hj => by
                      obtain ⟨a, ha, hak⟩ := blk_of hk
                      have h1 := rws_block (by decide) (show Rws 1 w (.slice o.ka o.K.length o.kc) _ from HRO0.out.k) (fun e => hne (by simpa using e)) a ha
                      have h2 := hA4.lo k hj
                      omega) (by omega))
                    have HA4 := hid hA4
                    have HO4 := hid ho4
                    clear q0 q1 q2 q3 hg1 ho4 hb4 hA4 hro
                    obtain ⟨q0, q1, q2, q3, -, -, -, -⟩ := four_cells HX4.out
                    go_wp2_with (first | (go_at_call 18; refine CR.out.mono ?_))
                    rintro e w5 ⟨rfl, wv5, hR5, hF5⟩
                    have hA5 := HA4.out.right hR5 hF5
                    have HX5 : Hid (w5.heap[ob]? = some (.cells #[.int .i64 o.kind, .int .i64 o.at', .slice o.ba o.B.length o.bc, .slice o.ka o.K.length o.kc] 33 (0, 0))) := (hF5.keep.block ob (lt_of_block HX4.out) (fun e => HOB.out (.inr e))).trans HX4.out
                    have HO5 := hid (own_keep HO4.out hF5.keep (fun k e hj => by cases e; exact HG.out.1 (.inr hj)))
                    have hin := Ri.of_full (k := o.K.length) HO5.out (by omega) (by rw [List.take_left' (by simp)]) rfl
                    have CC := hid (crash_gen hA5.d (.slice (some ⟨g, 0, none⟩) o.K.length (o.K.length + 3)) o.K hin (by omega))
                    have HG5 : Hid (g < w5.heap.size) := Nat.lt_of_lt_of_le HG.out.2 hF5.keep.size
                    have HA5 := hid hA5
                    clear q0 q1 q2 q3 hR5 hF5 hA5 hin
                    obtain ⟨q0, q1, q2, q3, -, -, -, -⟩ := four_cells HX5.out
                    go_wp2_with (first | (go_at_call 19; refine CC.out.mono ?_))
                    rintro e w6 ⟨rfl, hD6, hF6⟩
                    have hA6 := HA5.out.left hD6 hF6
                    have HX6 : Hid (w6.heap[ob]? = some (.cells #[.int .i64 o.kind, .int .i64 o.at', .slice o.ba o.B.length o.bc, .slice o.ka o.K.length o.kc] 33 (0, 0))) := (hF6.keep.block ob (lt_of_block HX5.out) (fun e => HOB.out (.inl e))).trans HX5.out
                    have ho6 := own_keep HO5.out hF6.keep (fun k e hj => by cases e; exact HG.out.1 (.inl hj))
                    have hro := HRO0.out.old hA6.bel
                    have CK := hid (kepti_any (.slice o.ka o.K.length o.kc) o.K 71 w6 g _ hro.k (by have := hro.few; omega) ho6)
                    have HA6 := hid hA6
                    have HRC := hid (rel_c (ks := o.K) HREL.out (fun x hx => (HA.out.d.ok x hx).1))
                    clear q0 q1 q2 q3 hD6 hF6 hA6 hro ho6
                    obtain ⟨q0, q1, q2, q3, -, -, -, -⟩ := four_cells HX6.out
                    go_wp2_with (first | (go_at_call 20; refine CK.out.mono ?_; rintro e w7 ⟨rfl, m7, rfl⟩))
                    go_meet
                    have hb7 : Below w6.heap.size w6 (w6.drewN m7) := ⟨rfl, rfl, rfl, Nat.le_refl _, fun _ _ => rfl⟩
                    exact ⟨db, rfl, rfl, ⟨⟨db, sb, rb, tb9, _, _, _, _, _, _, _, rfl, rfl, HA6.out.old hb7, HRC.out, hlf, by simp⟩⟩⟩
                  · skip
                    by_cases h5 : o.kind = 5
                    · have h5' : (o.kind == 5) = true := by simpa using h5
                      have h1' : (o.kind == 1) = false := by simpa using h1
                      have h2' : (o.kind == 2) = false := by simpa using h2
                      have h3' : (o.kind == 3) = false := by simpa using h3
                      have h4' : (o.kind == 4) = false := by simpa using h4
                      have CR := hid (rstart_any HA.out.r)
                      have HRS := hid (rel_s (dn := dn) HREL.out)
                      have HQS := hid (stQ_le (dn := dn) (Q := Q))
                      go_wp2_with (first | (go_at_call 21; refine CR.out.mono ?_))
                      rintro e w4 ⟨rfl, wv4, hR4, hF4⟩
                      have hA4 := HA.out.right hR4 hF4
                      have CS := hid (start_gen hA4.d (by omega))
                      have HA4 := hid hA4
                      clear hR4 hF4 hA4
                      go_wp2_with (first | (go_at_call 22; refine CS.out.mono ?_))
                      rintro e w5 ⟨rfl, vw5, -, hD5, hF5⟩
                      have HA5 := hid (HA4.out.left hD5 hF5)
                      clear hD5 hF5
                      go_wp2_with fail
                      go_meet
                      exact ⟨db, rfl, rfl, ⟨⟨db, sb, rb, tb9, _, _, _, _, _, _, _, rfl, rfl, HA5.out, HRS.out, by omega, by have := HQS.out; omega⟩⟩⟩
                    · skip
                      by_cases h6 : o.kind = 6
                      · have h6' : (o.kind == 6) = true := by simpa using h6
                        have h1' : (o.kind == 1) = false := by simpa using h1
                        have h2' : (o.kind == 2) = false := by simpa using h2
                        have h3' : (o.kind == 3) = false := by simpa using h3
                        have h4' : (o.kind == 4) = false := by simpa using h4
                        have h5' : (o.kind == 5) = false := by simpa using h5
                        have CF := hid (fork_any HA.out.d hn1 (by omega))
                        go_wp2_with (first | (go_at_call 23; refine CF.out.mono ?_))
                        rintro e w4 ⟨db2, sb2, vw2, m2, rfl, hD4, hb4⟩
                        have HD4 := hid hD4
                        have HB4 := hid hb4
                        have hb5 : Below w4.heap.size w4 (w4.alloc (.cells #[.int .u8 9] 5)) := (Below.refl _ _).alloc (Nat.le_refl _) _
                        have hr5 : Rd (w4.alloc (.cells #[.int .u8 9] 5)) (.slice (some ⟨w4.heap.size, 0, none⟩) 1 1) [9] := Rd.own (base := w4.heap.size) (e := 5) (l := [9]) ⟨rfl, .inr ⟨w4.heap.size, 1, _, rfl, Nat.le_refl _, heap_alloc_new _ _, Nat.le_refl _, by decide, rfl, rfl⟩⟩
                        have CS : Hid (Calls Try.prog 25 #[.slice (some ⟨w4.heap.size, 0, none⟩) 1 1] (w4.alloc (.cells #[.int .u8 9] 5)) (Gives 5 (w4.alloc (.cells #[.int .u8 9] 5)) (secOf [9]))) := sector_any _ _ [9] hr5
                        have HB5 := hid hb5
                        clear hD4 hb4 hb5 hr5
                        go_wp2_with (first | (go_at_call 25; refine CS.out.mono ?_))
                        rintro e w6 ⟨x6, rfl, hx6, hb6⟩
                        obtain ⟨xo6, xc6, rfl⟩ := own_form hx6
                        have hb46 : Below w4.heap.size w4 w6 := below_on2 HB5.out hb6
                        have hA6 := HA.out.old (below_on2 HB4.out hb46)
                        have HD6 := hid (HD4.out.old hb46)
                        have HB46 : Hid (Below wo.heap.size wo w6) := below_on2 HB4.out hb46
                        have h10 := dwrite_all hA6.d hlf _ (secOf [9]) 0 (Rd.own hx6) (by omega)
                        rw [sec_len] at h10 ⊢
                        have CW := hid h10
                        have HA6 := hid hA6
                        clear h10 hx6 hb6 hb46 hA6
                        go_wp2_with (first | (go_at_call 24; refine CW.out.mono ?_))
                        rintro e w7 ⟨rfl, vw7, hD7, hF7⟩
                        have CFL := hid (dflush_all hD7 (wF_le hlf))
                        have HF7 := hid hF7
                        clear hD7 hF7
                        go_wp2_with (first | (go_at_call 14; refine CFL.out.mono ?_))
                        rintro e w8 ⟨rfl, vw8, hD8, hF8⟩
                        have hF := HF7.out.trans hF8
                        have hfew : ∀ j, DX db2 sb2 vw2 j → wo.heap.size ≤ j := fun j hj => (HD4.out.lt j hj).1
                        have hold : ∀ j, XX db sb vw rb tb9 wv j → j < wo.heap.size := fun j hj => (HA.out.lt j hj).2
                        have hD9 := HD6.out.kept hF.keep (fun j hj hk => by have := hfew j hj; have := hold j (.inl hk); omega)
                        have HA9 : Hid (Apt w n db2 sb2 rb tb9 vw2 wv (S.take n ++ zs m2) Q dn lf T Q dn lf w8) :=
                          ⟨HA6.out.bel.trans (HA6.out.d.below hF), hD9.mono HA.out.bel.size, HA6.out.r.kept hF.keep (fun k hk hx => HA6.out.off k hx hk), fun j hj hk => by have := hfew j hj; have := hold j (.inr hk); omega, HA6.out.lo⟩
                        have HRF : Hid (Rel ((S.take n ++ zs m2).take n) Q T) := by
                          show Rel _ _ _
                          rw [List.take_append_of_le_length (by rw [List.length_take]; have := HA.out.d.few.1; omega), List.take_take, Nat.min_self]
                          exact HREL.out
                        clear hD8 hF8 hF hfew hold hD9
                        go_wp2_with fail
                        go_meet
                        exact ⟨db2, rfl, rfl, ⟨⟨db2, sb2, rb, tb9, _, _, _, _, _, _, _, rfl, rfl, HA9.out, HRF.out, hlf, by omega⟩⟩⟩
                      · skip
                        have h1' : (o.kind == 1) = false := by simpa using h1
                        have h2' : (o.kind == 2) = false := by simpa using h2
                        have h3' : (o.kind == 3) = false := by simpa using h3
                        have h4' : (o.kind == 4) = false := by simpa using h4
                        have h5' : (o.kind == 5) = false := by simpa using h5
                        have h6' : (o.kind == 6) = false := by simpa using h6
                        obtain ⟨q0, q1, q2, q3, -, -, -, -⟩ := four_cells HXO.out
                        have hro := HRO0.out.old HA.out.bel
                        have CS := hid (sector_any wo _ o.B hro.b)
                        clear hro
                        go_wp2_with (first | (go_at_call 25; refine CS.out.mono ?_))
                        rintro e w4 ⟨x4, rfl, hx4, hb4⟩
                        obtain ⟨xo4, xc4, rfl⟩ := own_form hx4
                        have HX4 : Hid (w4.heap[ob]? = some (.cells #[.int .i64 o.kind, .int .i64 o.at', .slice o.ba o.B.length o.bc, .slice o.ka o.K.length o.kc] 33 (0, 0))) := (hb4.block _ hob).trans HXO.out
                        have HA4 := hid (HA.out.old hb4)
                        have HR4 : Hid (Rd w4 (.slice xo4 (secOf o.B).length xc4) (secOf o.B) ∧ (∀ k, blk (.slice xo4 (secOf o.B).length xc4) = some k → ¬ XX db sb vw rb tb9 wv k)) := ⟨Rd.own hx4, fun k hk hj => by
                          rw [← ownBlock_blk] at hk
                          have h1 := (hx4.lt k hk).1
                          have h2 := (HA.out.lt k hj).2
                          omega⟩
                        have HO4 : Hid (Rd w4 (.slice o.ba o.B.length o.bc) o.B ∧ (o.B ≠ [] → ∀ k, blk (.slice o.ba o.B.length o.bc) = some k → ¬ XX db sb vw rb tb9 wv k)) := ⟨(HRO0.out.old HA4.out.bel).b, fun hne k hk hj => by
                          obtain ⟨a, ha, hak⟩ := blk_of hk
                          have h1 := rd_block HRO0.out.b hne a ha
                          have h2 := (HA.out.lt k hj).1
                          omega⟩
                        have HSL : Hid ((secOf o.B).length = 64) := sec_len _
                        clear hx4 hb4 q0 q1 q2 q3
                        obtain ⟨q0, q1, q2, q3, -, -, -, -⟩ := four_cells HX4.out
                        have hlenB := fun W => run_len_slice (P := Try.prog) W 30 3 o.ba o.B.length o.bc Try.underlying30
                        generalize secOf o.B = SB at *
                        by_cases h7 : o.kind = 7
                        · have h7' : (o.kind == 7) = true := by simpa using h7
                          by_cases hl9 : o.B.length < 200
                          · have hl9' : (o.B.length : Int) < 200 := by omega
                            go_upto_region 16 with fail
                            have CO := hid (own_any (.slice o.ba o.B.length o.bc) o.B 71 w4 HO4.out.1 (by omega))
                            go_wp2_with (first | (go_at_call 26; refine CO.out.mono ?_))
                            rintro e w5 ⟨g, rfl, hg1, ho5, hb5⟩
                            have hb5d : Below w4.heap.size w4 w5.drew := below_on2 hb5 ((Below.refl _ _).drew)
                            have HA5 : Hid (Apt w n db sb rb tb9 vw wv S Q dn lf T Q dn lf w5.drew) := HA4.out.old hb5d
                            have HG : Hid (¬ XX db sb vw rb tb9 wv g) := fun hj => by have := (HA4.out.lt _ hj).2; omega
                            have HW5 : Hid (Wst w4.heap.size g ob (.slice o.ba o.B.length o.bc) o.B (.cells #[.int .i64 o.kind, .int .i64 o.at', .slice o.ba o.B.length o.bc, .slice o.ka o.K.length o.kc] 33 (0, 0)) w5.drew) := ⟨HO4.out.1.old hb5d, own_old ho5 ((Below.refl _ _).drew), (hb5d.block _ (lt_of_block HX4.out)).trans HX4.out, (ho5.lt g rfl).2⟩
                            have h10 := dwrite_all HA5.out.d hlf _ o.B o.at' HW5.out.inn (by omega)
                            obtain ⟨ee, hee⟩ : ∃ ee, ee = wE n dn lf o.at' o.B.length := ⟨_, rfl⟩
                            rw [← hee] at h10
                            have CW := hid h10
                            have KD : Hid (∀ W' vw', Dk w.heap.size W' db sb n vw' (wS n dn S o.at' o.B) (wQ n dn S Q o.at' o.B) (wD n dn lf o.at' o.B.length) (wF n dn lf o.at' o.B.length) → Dfr db sb vw vw' w5.drew W' →
                                Hid (Apt w n db sb rb tb9 vw' wv (wS n dn S o.at' o.B) (wQ n dn S Q o.at' o.B) (wD n dn lf o.at' o.B.length) (wF n dn lf o.at' o.B.length) T Q dn lf W') ∧ Hid (¬ XX db sb vw' rb tb9 wv g) ∧ Hid (Wst w4.heap.size g ob (.slice o.ba o.B.length o.bc) o.B (.cells #[.int .i64 o.kind, .int .i64 o.at', .slice o.ba o.B.length o.bc, .slice o.ka o.K.length o.kc] 33 (0, 0)) W') ∧ W'.cell? ⟨ob, 1, none⟩ = some (.int .i64 o.at') ∧
                                Hid (Calls Try.prog 27 #[.pointer (some ⟨rb, 0, none⟩), .int .i64 o.at', (.slice o.ba o.B.length o.bc)] W' (fun e w' => e = .returned (.int .i64 ee) ∧ ∃ wv', Rk w' rb tb9 n wv' T (wQ n dn S Q o.at' o.B) (wD n dn lf o.at' o.B.length) (wF n dn lf o.at' o.B.length) ∧ Dfr rb tb9 wv wv' W' w'))) := fun W' vw' hD hF => by
                              have hW := HW5.out.keep hF.keep (fun hne k hk hj => HO4.out.2 hne k hk (.inl hj)) (fun hj => HG.out (.inl hj)) (fun hj => HOB.out (.inl hj))
                              have hA := HA5.out.left hD hF
                              have hc := rwrite_all hA.r hlf _ o.B o.at' hW.rd (by omega) S
                              rw [← hee] at hc
                              exact ⟨hA, xx_left HG.out hF HW5.out.lt, hW, (four_cells hW.bx).2.1, hc⟩
                            have KR : Hid (∀ W W' vw' wv', Apt w n db sb rb tb9 vw' wv (wS n dn S o.at' o.B) (wQ n dn S Q o.at' o.B) (wD n dn lf o.at' o.B.length) (wF n dn lf o.at' o.B.length) T Q dn lf W → ¬ XX db sb vw' rb tb9 wv g → Wst w4.heap.size g ob (.slice o.ba o.B.length o.bc) o.B (.cells #[.int .i64 o.kind, .int .i64 o.at', .slice o.ba o.B.length o.bc, .slice o.ka o.K.length o.kc] 33 (0, 0)) W → Rk W' rb tb9 n wv' T (wQ n dn S Q o.at' o.B) (wD n dn lf o.at' o.B.length) (wF n dn lf o.at' o.B.length) → Dfr rb tb9 wv wv' W W' →
                                Hid (Apt w n db sb rb tb9 vw' wv' (wS n dn S o.at' o.B) (wQ n dn S Q o.at' o.B) (wD n dn lf o.at' o.B.length) (wF n dn lf o.at' o.B.length) T (wQ n dn S Q o.at' o.B) (wD n dn lf o.at' o.B.length) (wF n dn lf o.at' o.B.length) W') ∧ Hid (¬ XX db sb vw' rb tb9 wv' g) ∧ Hid (Wst w4.heap.size g ob (.slice o.ba o.B.length o.bc) o.B (.cells #[.int .i64 o.kind, .int .i64 o.at', .slice o.ba o.B.length o.bc, .slice o.ka o.K.length o.kc] 33 (0, 0)) W') ∧ W'.cell? ⟨ob, 1, none⟩ = some (.int .i64 o.at') ∧
                                Hid (Calls Try.prog 28 #[.slice (some ⟨g, 0, none⟩) o.B.length (o.B.length + 3), (.slice o.ba o.B.length o.bc), .int .u8 71] W' (Draws W' (.bool true)))) := fun W W' vw' wv' hA hN hW hR hF => by
                              have hW2 := hW.keep hF.keep (fun hne k hk hj => HO4.out.2 hne k hk (.inr hj)) (fun hj => HG.out (.inr hj)) (fun hj => HOB.out (.inr hj))
                              exact ⟨hA.right hR hF, xx_right hN hF hW.lt, hW2, (four_cells hW2.bx).2.1, kept_any _ o.B 71 W' g _ hW2.rd (by omega) hW2.own⟩
                            have hc5 : w5.drew.cell? ⟨ob, 1, none⟩ = some (.int .i64 o.at') := (four_cells HW5.out.bx).2.1
                            have hc5' : w5.cell? ⟨ob, 1, none⟩ = some (.int .i64 o.at') := hc5
                            have HRW := hid (rel_w (dn := dn) (z := o.at') (l := o.B) HREL.out HA.out.d.few.1)
                            have HLE := hid (And.intro (wF_le (n := n) (dn := dn) (z := o.at') (m := o.B.length) hlf) (wQ_le (n := n) (dn := dn) (S := S) (Q := Q) (z := o.at') (l := o.B)))
                            have HG1 := hid hg1
                            clear hg1 ho5 hb5 hb5d h10 hee q0 q1 q2 q3
                            go_upto_region 17 with fail
                            go_region_held3 (fun W => W.cell? ⟨ob, 1, none⟩ = some (.int .i64 o.at'))
                              (first | exact hc5 | assumption | go_keep)
                              (first
                                | (go_at_call 24; with_reducible refine CW.out.mono ?_; intro e w7 hh7; obtain ⟨rfl, vw7, hD7, hF7⟩ := hh7; obtain ⟨HA7, HN7, HW7, hc7, CR7⟩ := KD.out w7 vw7 hD7 hF7; clear hD7 hF7)
                                | (go_at_call 27; with_reducible refine CR7.out.mono ?_; intro e w8 hh8; obtain ⟨rfl, wv8, hR8, hF8⟩ := hh8; obtain ⟨HA8, HN8, HW8, hc8, CK8⟩ := KR.out w7 w8 vw7 wv8 HA7.out HN7.out HW7.out hR8 hF8; clear hR8 hF8)
                                | (go_at_call 28; with_reducible refine CK8.out.mono ?_; intro e w9 hh9; unfold Draws at hh9; obtain ⟨rfl, m9, rfl⟩ := hh9; have hc9 : (w8.drewN m9).cell? ⟨ob, 1, none⟩ = some (.int .i64 o.at') := cell_drewN hc8))
                            all_goals (go_upto_region 18 with fail)
                            have hb9 : Below w8.heap.size w8 (w8.drewN m9) := ⟨rfl, rfl, rfl, Nat.le_refl _, fun _ _ => rfl⟩
                            have HA9 := hid (HA8.out.old hb9)
                            have HW9 := hid (HW8.out.old hb9)
                            have CSP := hid (spoil_any (w8.drewN m9) w4.heap.size g (o.B.length + 3) o.B HW9.out.head (by omega))
                            clear hb9
                            go_wp2_with (first | (go_at_call 13; refine CSP.out.mono ?_))
                            rintro e w10 ⟨rfl, hg10⟩
                            have HA10 : Hid (Apt w n db sb rb tb9 vw7 wv8 (wS n dn S o.at' o.B) (wQ n dn S Q o.at' o.B) (wD n dn lf o.at' o.B.length) (wF n dn lf o.at' o.B.length) T (wQ n dn S Q o.at' o.B) (wD n dn lf o.at' o.B.length) (wF n dn lf o.at' o.B.length) w10) := HA9.out.kept hg10 HN8.out (Nat.le_trans HA4.out.bel.size HG1.out)
                            clear hg10
                            go_wp2_with fail
                            go_meet
                            exact ⟨db, rfl, by simp, ⟨⟨db, sb, rb, tb9, _, _, _, _, _, _, _, rfl, rfl, HA10.out, HRW.out, HLE.out.1, by have := HLE.out.2; omega⟩⟩⟩
                          · have hl9' : (200 : Int) ≤ (o.B.length : Int) := by omega
                            go_upto_region 16 with fail
                            have CO := hid (own_any (.slice xo4 SB.length xc4) SB 71 w4 HR4.out.1 (by have := HSL.out; omega))
                            go_wp2_with (first | (go_at_call 26; refine CO.out.mono ?_))
                            rintro e w5 ⟨g, rfl, hg1, ho5, hb5⟩
                            have hb5d : Below w4.heap.size w4 w5.drew := below_on2 hb5 ((Below.refl _ _).drew)
                            have HA5 : Hid (Apt w n db sb rb tb9 vw wv S Q dn lf T Q dn lf w5.drew) := HA4.out.old hb5d
                            have HG : Hid (¬ XX db sb vw rb tb9 wv g) := fun hj => by have := (HA4.out.lt _ hj).2; omega
                            have HW5 : Hid (Wst w4.heap.size g ob (.slice xo4 SB.length xc4) SB (.cells #[.int .i64 o.kind, .int .i64 o.at', .slice o.ba o.B.length o.bc, .slice o.ka o.K.length o.kc] 33 (0, 0)) w5.drew) := ⟨HR4.out.1.old hb5d, own_old ho5 ((Below.refl _ _).drew), (hb5d.block _ (lt_of_block HX4.out)).trans HX4.out, (ho5.lt g rfl).2⟩
                            have h10 := dwrite_all HA5.out.d hlf _ SB o.at' HW5.out.inn (by omega)
                            obtain ⟨ee, hee⟩ : ∃ ee, ee = wE n dn lf o.at' SB.length := ⟨_, rfl⟩
                            rw [← hee] at h10
                            have CW := hid h10
                            have KD : Hid (∀ W' vw', Dk w.heap.size W' db sb n vw' (wS n dn S o.at' SB) (wQ n dn S Q o.at' SB) (wD n dn lf o.at' SB.length) (wF n dn lf o.at' SB.length) → Dfr db sb vw vw' w5.drew W' →
                                Hid (Apt w n db sb rb tb9 vw' wv (wS n dn S o.at' SB) (wQ n dn S Q o.at' SB) (wD n dn lf o.at' SB.length) (wF n dn lf o.at' SB.length) T Q dn lf W') ∧ Hid (¬ XX db sb vw' rb tb9 wv g) ∧ Hid (Wst w4.heap.size g ob (.slice xo4 SB.length xc4) SB (.cells #[.int .i64 o.kind, .int .i64 o.at', .slice o.ba o.B.length o.bc, .slice o.ka o.K.length o.kc] 33 (0, 0)) W') ∧ W'.cell? ⟨ob, 1, none⟩ = some (.int .i64 o.at') ∧
                                Hid (Calls Try.prog 27 #[.pointer (some ⟨rb, 0, none⟩), .int .i64 o.at', (.slice xo4 SB.length xc4)] W' (fun e w' => e = .returned (.int .i64 ee) ∧ ∃ wv', Rk w' rb tb9 n wv' T (wQ n dn S Q o.at' SB) (wD n dn lf o.at' SB.length) (wF n dn lf o.at' SB.length) ∧ Dfr rb tb9 wv wv' W' w'))) := fun W' vw' hD hF => by
                              have hW := HW5.out.keep hF.keep (fun hne k hk hj => HR4.out.2 k hk (.inl hj)) (fun hj => HG.out (.inl hj)) (fun hj => HOB.out (.inl hj))
                              have hA := HA5.out.left hD hF
                              have hc := rwrite_all hA.r hlf _ SB o.at' hW.rd (by omega) S
                              rw [← hee] at hc
                              exact ⟨hA, xx_left HG.out hF HW5.out.lt, hW, (four_cells hW.bx).2.1, hc⟩
                            have KR : Hid (∀ W W' vw' wv', Apt w n db sb rb tb9 vw' wv (wS n dn S o.at' SB) (wQ n dn S Q o.at' SB) (wD n dn lf o.at' SB.length) (wF n dn lf o.at' SB.length) T Q dn lf W → ¬ XX db sb vw' rb tb9 wv g → Wst w4.heap.size g ob (.slice xo4 SB.length xc4) SB (.cells #[.int .i64 o.kind, .int .i64 o.at', .slice o.ba o.B.length o.bc, .slice o.ka o.K.length o.kc] 33 (0, 0)) W → Rk W' rb tb9 n wv' T (wQ n dn S Q o.at' SB) (wD n dn lf o.at' SB.length) (wF n dn lf o.at' SB.length) → Dfr rb tb9 wv wv' W W' →
                                Hid (Apt w n db sb rb tb9 vw' wv' (wS n dn S o.at' SB) (wQ n dn S Q o.at' SB) (wD n dn lf o.at' SB.length) (wF n dn lf o.at' SB.length) T (wQ n dn S Q o.at' SB) (wD n dn lf o.at' SB.length) (wF n dn lf o.at' SB.length) W') ∧ Hid (¬ XX db sb vw' rb tb9 wv' g) ∧ Hid (Wst w4.heap.size g ob (.slice xo4 SB.length xc4) SB (.cells #[.int .i64 o.kind, .int .i64 o.at', .slice o.ba o.B.length o.bc, .slice o.ka o.K.length o.kc] 33 (0, 0)) W') ∧ W'.cell? ⟨ob, 1, none⟩ = some (.int .i64 o.at') ∧
                                Hid (Calls Try.prog 28 #[.slice (some ⟨g, 0, none⟩) SB.length (SB.length + 3), (.slice xo4 SB.length xc4), .int .u8 71] W' (Draws W' (.bool true)))) := fun W W' vw' wv' hA hN hW hR hF => by
                              have hW2 := hW.keep hF.keep (fun hne k hk hj => HR4.out.2 k hk (.inr hj)) (fun hj => HG.out (.inr hj)) (fun hj => HOB.out (.inr hj))
                              exact ⟨hA.right hR hF, xx_right hN hF hW.lt, hW2, (four_cells hW2.bx).2.1, kept_any _ SB 71 W' g _ hW2.rd (by have := HSL.out; omega) hW2.own⟩
                            have hc5 : w5.drew.cell? ⟨ob, 1, none⟩ = some (.int .i64 o.at') := (four_cells HW5.out.bx).2.1
                            have hc5' : w5.cell? ⟨ob, 1, none⟩ = some (.int .i64 o.at') := hc5
                            have HRW := hid (rel_w (dn := dn) (z := o.at') (l := SB) HREL.out HA.out.d.few.1)
                            have HLE := hid (And.intro (wF_le (n := n) (dn := dn) (z := o.at') (m := SB.length) hlf) (wQ_le (n := n) (dn := dn) (S := S) (Q := Q) (z := o.at') (l := SB)))
                            have HG1 := hid hg1
                            clear hg1 ho5 hb5 hb5d h10 hee q0 q1 q2 q3
                            go_upto_region 17 with fail
                            go_region_held3 (fun W => W.cell? ⟨ob, 1, none⟩ = some (.int .i64 o.at'))
                              (first | exact hc5 | assumption | go_keep)
                              (first
                                | (go_at_call 24; with_reducible refine CW.out.mono ?_; intro e w7 hh7; obtain ⟨rfl, vw7, hD7, hF7⟩ := hh7; obtain ⟨HA7, HN7, HW7, hc7, CR7⟩ := KD.out w7 vw7 hD7 hF7; clear hD7 hF7)
                                | (go_at_call 27; with_reducible refine CR7.out.mono ?_; intro e w8 hh8; obtain ⟨rfl, wv8, hR8, hF8⟩ := hh8; obtain ⟨HA8, HN8, HW8, hc8, CK8⟩ := KR.out w7 w8 vw7 wv8 HA7.out HN7.out HW7.out hR8 hF8; clear hR8 hF8)
                                | (go_at_call 28; with_reducible refine CK8.out.mono ?_; intro e w9 hh9; unfold Draws at hh9; obtain ⟨rfl, m9, rfl⟩ := hh9; have hc9 : (w8.drewN m9).cell? ⟨ob, 1, none⟩ = some (.int .i64 o.at') := cell_drewN hc8))
                            all_goals (go_upto_region 18 with fail)
                            have hb9 : Below w8.heap.size w8 (w8.drewN m9) := ⟨rfl, rfl, rfl, Nat.le_refl _, fun _ _ => rfl⟩
                            have HA9 := hid (HA8.out.old hb9)
                            have HW9 := hid (HW8.out.old hb9)
                            have CSP := hid (spoil_any (w8.drewN m9) w4.heap.size g (SB.length + 3) SB HW9.out.head (by have := HSL.out; omega))
                            clear hb9
                            go_wp2_with (first | (go_at_call 13; refine CSP.out.mono ?_))
                            rintro e w10 ⟨rfl, hg10⟩
                            have HA10 : Hid (Apt w n db sb rb tb9 vw7 wv8 (wS n dn S o.at' SB) (wQ n dn S Q o.at' SB) (wD n dn lf o.at' SB.length) (wF n dn lf o.at' SB.length) T (wQ n dn S Q o.at' SB) (wD n dn lf o.at' SB.length) (wF n dn lf o.at' SB.length) w10) := HA9.out.kept hg10 HN8.out (Nat.le_trans HA4.out.bel.size HG1.out)
                            clear hg10
                            go_wp2_with fail
                            go_meet
                            exact ⟨db, rfl, by simp, ⟨⟨db, sb, rb, tb9, _, _, _, _, _, _, _, rfl, rfl, HA10.out, HRW.out, HLE.out.1, by have := HLE.out.2; omega⟩⟩⟩
                        · have h7' : (o.kind == 7) = false := by simpa using h7
                          go_upto_region 16 with fail
                          have CO := hid (own_any (.slice xo4 SB.length xc4) SB 71 w4 HR4.out.1 (by have := HSL.out; omega))
                          go_wp2_with (first | (go_at_call 26; refine CO.out.mono ?_))
                          rintro e w5 ⟨g, rfl, hg1, ho5, hb5⟩
                          have hb5d : Below w4.heap.size w4 w5.drew := below_on2 hb5 ((Below.refl _ _).drew)
                          have HA5 : Hid (Apt w n db sb rb tb9 vw wv S Q dn lf T Q dn lf w5.drew) := HA4.out.old hb5d
                          have HG : Hid (¬ XX db sb vw rb tb9 wv g) := fun hj => by have := (HA4.out.lt _ hj).2; omega
                          have HW5 : Hid (Wst w4.heap.size g ob (.slice xo4 SB.length xc4) SB (.cells #[.int .i64 o.kind, .int .i64 o.at', .slice o.ba o.B.length o.bc, .slice o.ka o.K.length o.kc] 33 (0, 0)) w5.drew) := ⟨HR4.out.1.old hb5d, own_old ho5 ((Below.refl _ _).drew), (hb5d.block _ (lt_of_block HX4.out)).trans HX4.out, (ho5.lt g rfl).2⟩
                          have h10 := dwrite_all HA5.out.d hlf _ SB o.at' HW5.out.inn (by omega)
                          obtain ⟨ee, hee⟩ : ∃ ee, ee = wE n dn lf o.at' SB.length := ⟨_, rfl⟩
                          rw [← hee] at h10
                          have CW := hid h10
                          have KD : Hid (∀ W' vw', Dk w.heap.size W' db sb n vw' (wS n dn S o.at' SB) (wQ n dn S Q o.at' SB) (wD n dn lf o.at' SB.length) (wF n dn lf o.at' SB.length) → Dfr db sb vw vw' w5.drew W' →
                              Hid (Apt w n db sb rb tb9 vw' wv (wS n dn S o.at' SB) (wQ n dn S Q o.at' SB) (wD n dn lf o.at' SB.length) (wF n dn lf o.at' SB.length) T Q dn lf W') ∧ Hid (¬ XX db sb vw' rb tb9 wv g) ∧ Hid (Wst w4.heap.size g ob (.slice xo4 SB.length xc4) SB (.cells #[.int .i64 o.kind, .int .i64 o.at', .slice o.ba o.B.length o.bc, .slice o.ka o.K.length o.kc] 33 (0, 0)) W') ∧ W'.cell? ⟨ob, 1, none⟩ = some (.int .i64 o.at') ∧
                              Hid (Calls Try.prog 27 #[.pointer (some ⟨rb, 0, none⟩), .int .i64 o.at', (.slice xo4 SB.length xc4)] W' (fun e w' => e = .returned (.int .i64 ee) ∧ ∃ wv', Rk w' rb tb9 n wv' T (wQ n dn S Q o.at' SB) (wD n dn lf o.at' SB.length) (wF n dn lf o.at' SB.length) ∧ Dfr rb tb9 wv wv' W' w'))) := fun W' vw' hD hF => by
                            have hW := HW5.out.keep hF.keep (fun hne k hk hj => HR4.out.2 k hk (.inl hj)) (fun hj => HG.out (.inl hj)) (fun hj => HOB.out (.inl hj))
                            have hA := HA5.out.left hD hF
                            have hc := rwrite_all hA.r hlf _ SB o.at' hW.rd (by omega) S
                            rw [← hee] at hc
                            exact ⟨hA, xx_left HG.out hF HW5.out.lt, hW, (four_cells hW.bx).2.1, hc⟩
                          have KR : Hid (∀ W W' vw' wv', Apt w n db sb rb tb9 vw' wv (wS n dn S o.at' SB) (wQ n dn S Q o.at' SB) (wD n dn lf o.at' SB.length) (wF n dn lf o.at' SB.length) T Q dn lf W → ¬ XX db sb vw' rb tb9 wv g → Wst w4.heap.size g ob (.slice xo4 SB.length xc4) SB (.cells #[.int .i64 o.kind, .int .i64 o.at', .slice o.ba o.B.length o.bc, .slice o.ka o.K.length o.kc] 33 (0, 0)) W → Rk W' rb tb9 n wv' T (wQ n dn S Q o.at' SB) (wD n dn lf o.at' SB.length) (wF n dn lf o.at' SB.length) → Dfr rb tb9 wv wv' W W' →
                              Hid (Apt w n db sb rb tb9 vw' wv' (wS n dn S o.at' SB) (wQ n dn S Q o.at' SB) (wD n dn lf o.at' SB.length) (wF n dn lf o.at' SB.length) T (wQ n dn S Q o.at' SB) (wD n dn lf o.at' SB.length) (wF n dn lf o.at' SB.length) W') ∧ Hid (¬ XX db sb vw' rb tb9 wv' g) ∧ Hid (Wst w4.heap.size g ob (.slice xo4 SB.length xc4) SB (.cells #[.int .i64 o.kind, .int .i64 o.at', .slice o.ba o.B.length o.bc, .slice o.ka o.K.length o.kc] 33 (0, 0)) W') ∧ W'.cell? ⟨ob, 1, none⟩ = some (.int .i64 o.at') ∧
                              Hid (Calls Try.prog 28 #[.slice (some ⟨g, 0, none⟩) SB.length (SB.length + 3), (.slice xo4 SB.length xc4), .int .u8 71] W' (Draws W' (.bool true)))) := fun W W' vw' wv' hA hN hW hR hF => by
                            have hW2 := hW.keep hF.keep (fun hne k hk hj => HR4.out.2 k hk (.inr hj)) (fun hj => HG.out (.inr hj)) (fun hj => HOB.out (.inr hj))
                            exact ⟨hA.right hR hF, xx_right hN hF hW.lt, hW2, (four_cells hW2.bx).2.1, kept_any _ SB 71 W' g _ hW2.rd (by have := HSL.out; omega) hW2.own⟩
                          have hc5 : w5.drew.cell? ⟨ob, 1, none⟩ = some (.int .i64 o.at') := (four_cells HW5.out.bx).2.1
                          have hc5' : w5.cell? ⟨ob, 1, none⟩ = some (.int .i64 o.at') := hc5
                          have HRW := hid (rel_w (dn := dn) (z := o.at') (l := SB) HREL.out HA.out.d.few.1)
                          have HLE := hid (And.intro (wF_le (n := n) (dn := dn) (z := o.at') (m := SB.length) hlf) (wQ_le (n := n) (dn := dn) (S := S) (Q := Q) (z := o.at') (l := SB)))
                          have HG1 := hid hg1
                          clear hg1 ho5 hb5 hb5d h10 hee q0 q1 q2 q3
                          go_upto_region 17 with fail
                          go_region_held3 (fun W => W.cell? ⟨ob, 1, none⟩ = some (.int .i64 o.at'))
                            (first | exact hc5 | assumption | go_keep)
                            (first
                              | (go_at_call 24; with_reducible refine CW.out.mono ?_; intro e w7 hh7; obtain ⟨rfl, vw7, hD7, hF7⟩ := hh7; obtain ⟨HA7, HN7, HW7, hc7, CR7⟩ := KD.out w7 vw7 hD7 hF7; clear hD7 hF7)
                              | (go_at_call 27; with_reducible refine CR7.out.mono ?_; intro e w8 hh8; obtain ⟨rfl, wv8, hR8, hF8⟩ := hh8; obtain ⟨HA8, HN8, HW8, hc8, CK8⟩ := KR.out w7 w8 vw7 wv8 HA7.out HN7.out HW7.out hR8 hF8; clear hR8 hF8)
                              | (go_at_call 28; with_reducible refine CK8.out.mono ?_; intro e w9 hh9; unfold Draws at hh9; obtain ⟨rfl, m9, rfl⟩ := hh9; have hc9 : (w8.drewN m9).cell? ⟨ob, 1, none⟩ = some (.int .i64 o.at') := cell_drewN hc8))
                          all_goals (go_upto_region 18 with fail)
                          have hb9 : Below w8.heap.size w8 (w8.drewN m9) := ⟨rfl, rfl, rfl, Nat.le_refl _, fun _ _ => rfl⟩
                          have HA9 := hid (HA8.out.old hb9)
                          have HW9 := hid (HW8.out.old hb9)
                          have CSP := hid (spoil_any (w8.drewN m9) w4.heap.size g (SB.length + 3) SB HW9.out.head (by have := HSL.out; omega))
                          clear hb9
                          go_wp2_with (first | (go_at_call 13; refine CSP.out.mono ?_))
                          rintro e w10 ⟨rfl, hg10⟩
                          have HA10 : Hid (Apt w n db sb rb tb9 vw7 wv8 (wS n dn S o.at' SB) (wQ n dn S Q o.at' SB) (wD n dn lf o.at' SB.length) (wF n dn lf o.at' SB.length) T (wQ n dn S Q o.at' SB) (wD n dn lf o.at' SB.length) (wF n dn lf o.at' SB.length) w10) := HA9.out.kept hg10 HN8.out (Nat.le_trans HA4.out.bel.size HG1.out)
                          clear hg10
                          go_wp2_with fail
                          go_meet
                          exact ⟨db, rfl, by simp, ⟨⟨db, sb, rb, tb9, _, _, _, _, _, _, _, rfl, rfl, HA10.out, HRW.out, HLE.out.1, by have := HLE.out.2; omega⟩⟩⟩
          case rest =>
            obtain ⟨db', rfl, rfl, HT4⟩ := hcut
            generalize wc = wr at *
            obtain ⟨db8, sb8, rb8, tb8, vw8, wv8, S8, T8, Q8, dn8, lf8, e1, e2, hA8, hrel8, hlf8, hql8⟩ := HT4.out.ex
            simp only [Value.pointer.injEq, Option.some.injEq, Addr.mk.injEq, and_true] at e1 e2
            subst e1
            subst e2
            obtain ⟨xo8, xc8, hwv8⟩ := hA8.r.form
            have HWV := hid hwv8
            subst hwv8
            obtain ⟨c0, c1, c2, c3, -, -, -, -⟩ := four_cells hA8.r.hd
            have hlenW := fun W => run_len_slice (P := Try.prog) W 40 3 xo8 Q8.length xc8 Try.underlying40
            have CD : Hid (∀ a, Calls Try.prog 29 #[.pointer (some ⟨db', 0, none⟩)] (wr.drewN a) (fun e w' => e = .returned (.bool dn8) ∧ w' = wr.drewN a)) := fun a => down_any (hA8.d.old (w' := wr.drewN a) ⟨rfl, rfl, rfl, Nat.le_refl _, fun _ _ => rfl⟩)
            have CW : Hid (∀ a, Calls Try.prog 30 #[.pointer (some ⟨db', 0, none⟩)] (wr.drewN a) (fun e w' => e = .returned (.int .i64 (Q8.length : Int)) ∧ w' = wr.drewN a)) := fun a => waiting_any (hA8.d.old (w' := wr.drewN a) ⟨rfl, rfl, rfl, Nat.le_refl _, fun _ _ => rfl⟩)
            have CZ : Hid (∀ a, Calls Try.prog 31 #[.pointer (some ⟨db', 0, none⟩)] (wr.drewN a) (fun e w' => e = .returned (.int .i64 (n : Int)) ∧ w' = wr.drewN a)) := fun a => size_any (hA8.d.old (w' := wr.drewN a) ⟨rfl, rfl, rfl, Nat.le_refl _, fun _ _ => rfl⟩)
            clear hA8 hrel8
            go_upto_region 43 with fail
            go_quiet ((first
              | (go_at_call 29; exact (CD.out _).mono (fun _ _ h => ⟨h.1, _, h.2⟩))
              | (go_at_call 30; exact (CW.out _).mono (fun _ _ h => ⟨h.1, _, h.2⟩))
              | (go_at_call 31; exact (CZ.out _).mono (fun _ _ h => ⟨h.1, _, h.2⟩))))
            go_wp2_with fail
            go_roundw
            case rel => exact ⟨k + 1, db', by omega, by omega, rfl, by go_num, HT4.out.drewN _⟩
            case measure => first | (simp [intOf]; done) | (simp [intOf]; omega)
        · have hlt' : (k : Int) < (M.length : Int) := by omega
          have hl2' : (120 : Int) ≤ (k : Int) := by omega
          obtain ⟨db9, sb, rb9, tb9, vw, wv, S, T, Q, dn, lf, e1, e2, hA, hrel, hlf, hql⟩ := HT.out.ex
          simp only [Value.pointer.injEq, Option.some.injEq, Addr.mk.injEq, and_true] at e1 e2
          subst e1
          subst e2
          have CST := hid (start_gen hA.d (by omega : Q.length ≤ 100000))
          have HA := hid hA
          have HREL := hid (rel_s (dn := dn) hrel)
          clear hA hrel
          go_wp2_with (first | (go_at_call 22; refine CST.out.mono ?_))
          rintro e w4 ⟨rfl, vw4, -, hD4, hF4⟩
          have hA4 := HA.out.left hD4 hF4
          have CRS := hid (rstart_any hA4.r)
          have HA4 := hid hA4
          clear hD4 hF4 hA4
          go_wp2_with (first | (go_at_call 21; refine CRS.out.mono ?_))
          rintro e w5 ⟨rfl, wv5, hR5, hF5⟩
          have hA5 := HA4.out.right hR5 hF5
          have hq5 : (stQ dn Q).length ≤ 1000000 := by have := stQ_le (dn := dn) (Q := Q); omega
          generalize stQ dn Q = Q5 at *
          generalize stS dn S Q = S5 at *
          have HA5 := hid hA5
          have HQ5 := hid hq5
          clear hR5 hF5 hA5 hq5
          go_wp2_with fail
          go_loopw [19] (fun i wr => ∃ j : Nat, j ≤ n ∧ j ≤ 40 ∧ i = .int .i64 (j : Int) ∧ Hid (Below w5.heap.size w5 wr)) (fun i _ => n - (intOf i).toNat)
          case atStart => exact ⟨0, by omega, by omega, rfl, Below.refl _ _⟩
          case round =>
            obtain ⟨j, hj, hj2, rfl, HBj⟩ := hrel
            by_cases hjn : j < n
            · by_cases hj4 : j < 40
              · have hjI : (j : Int) < (n : Int) := by omega
                have hj4I : (j : Int) < 40 := by omega
                have hA6 := HA5.out.old HBj.out
                have hd0 := dread_all hA6.d (j : Int)
                rw [HREL.out.1] at hd0
                obtain ⟨LL, hLL⟩ : ∃ LL, LL = rL n false (shM T Q5) (j : Int) := ⟨_, rfl⟩
                obtain ⟨ee, hee⟩ : ∃ ee, ee = rE n false (j : Int) := ⟨_, rfl⟩
                unfold ReadAll at hd0
                rw [← hLL, ← hee] at hd0
                have CD := hid hd0
                have HA6 := hid hA6
                have HLE := hid (And.intro hLL hee)
                clear hA6 hd0 hLL hee
                go_wp2_with (first | (go_at_call 10; refine CD.out.mono ?_))
                rintro e w7 ⟨x7, rfl, hx7, hb7⟩
                obtain ⟨xo7, xc7, rfl⟩ := own_form hx7
                have hr0 := rread_all (HA6.out.old hb7).r (j : Int) HQ5.out
                unfold ReadAll at hr0
                rw [← HLE.out.1, ← HLE.out.2] at hr0
                have CR := hid hr0
                have HX7 := hid (Rd.own hx7)
                have HB7 := hid hb7
                clear hr0 hx7 hb7
                go_wp2_with (first | (go_at_call 11; refine CR.out.mono ?_))
                rintro e w8 ⟨x8, rfl, hx8, hb8⟩
                obtain ⟨xo8, xc8, rfl⟩ := own_form hx8
                have CB := hid (bytes_any _ _ LL w8 (HX7.out.old hb8) (Rd.own hx8))
                have HB8 : Hid (Below w5.heap.size w5 w8) := below_on2 HBj.out (below_on2 HB7.out hb8)
                clear hx8 hb8
                go_wp2_with (first | (go_at_call 12; refine CB.out.mono ?_; rintro e w9 ⟨rfl, rfl⟩))
                go_roundw
                case rel => exact ⟨j + 1, by omega, by omega, by go_num, HB8⟩
                case measure => first | (simp [intOf]; done) | (simp [intOf]; omega)
              · have hjI : (j : Int) < (n : Int) := by omega
                have hj4I : (40 : Int) ≤ (j : Int) := by omega
                go_wp2_with fail
                go_ret
                exact ⟨rfl, HA5.out.bel.trans (HBj.out.mono HA5.out.bel.size)⟩
            · have hjI : (n : Int) ≤ (j : Int) := by omega
              go_wp2_with fail
              go_ret
              exact ⟨rfl, HA5.out.bel.trans (HBj.out.mono HA5.out.bel.size)⟩
      · have hlt' : (M.length : Int) ≤ (k : Int) := by omega
        obtain ⟨db9, sb, rb9, tb9, vw, wv, S, T, Q, dn, lf, e1, e2, hA, hrel, hlf, hql⟩ := HT.out.ex
        simp only [Value.pointer.injEq, Option.some.injEq, Addr.mk.injEq, and_true] at e1 e2
        subst e1
        subst e2
        have CST := hid (start_gen hA.d (by omega : Q.length ≤ 100000))
        have HA := hid hA
        have HREL := hid (rel_s (dn := dn) hrel)
        clear hA hrel
        go_wp2_with (first | (go_at_call 22; refine CST.out.mono ?_))
        rintro e w4 ⟨rfl, vw4, -, hD4, hF4⟩
        have hA4 := HA.out.left hD4 hF4
        have CRS := hid (rstart_any hA4.r)
        have HA4 := hid hA4
        clear hD4 hF4 hA4
        go_wp2_with (first | (go_at_call 21; refine CRS.out.mono ?_))
        rintro e w5 ⟨rfl, wv5, hR5, hF5⟩
        have hA5 := HA4.out.right hR5 hF5
        have hq5 : (stQ dn Q).length ≤ 1000000 := by have := stQ_le (dn := dn) (Q := Q); omega
        generalize stQ dn Q = Q5 at *
        generalize stS dn S Q = S5 at *
        have HA5 := hid hA5
        have HQ5 := hid hq5
        clear hR5 hF5 hA5 hq5
        go_wp2_with fail
        go_loopw [19] (fun i wr => ∃ j : Nat, j ≤ n ∧ j ≤ 40 ∧ i = .int .i64 (j : Int) ∧ Hid (Below w5.heap.size w5 wr)) (fun i _ => n - (intOf i).toNat)
        case atStart => exact ⟨0, by omega, by omega, rfl, Below.refl _ _⟩
        case round =>
          obtain ⟨j, hj, hj2, rfl, HBj⟩ := hrel
          by_cases hjn : j < n
          · by_cases hj4 : j < 40
            · have hjI : (j : Int) < (n : Int) := by omega
              have hj4I : (j : Int) < 40 := by omega
              have hA6 := HA5.out.old HBj.out
              have hd0 := dread_all hA6.d (j : Int)
              rw [HREL.out.1] at hd0
              obtain ⟨LL, hLL⟩ : ∃ LL, LL = rL n false (shM T Q5) (j : Int) := ⟨_, rfl⟩
              obtain ⟨ee, hee⟩ : ∃ ee, ee = rE n false (j : Int) := ⟨_, rfl⟩
              unfold ReadAll at hd0
              rw [← hLL, ← hee] at hd0
              have CD := hid hd0
              have HA6 := hid hA6
              have HLE := hid (And.intro hLL hee)
              clear hA6 hd0 hLL hee
              go_wp2_with (first | (go_at_call 10; refine CD.out.mono ?_))
              rintro e w7 ⟨x7, rfl, hx7, hb7⟩
              obtain ⟨xo7, xc7, rfl⟩ := own_form hx7
              have hr0 := rread_all (HA6.out.old hb7).r (j : Int) HQ5.out
              unfold ReadAll at hr0
              rw [← HLE.out.1, ← HLE.out.2] at hr0
              have CR := hid hr0
              have HX7 := hid (Rd.own hx7)
              have HB7 := hid hb7
              clear hr0 hx7 hb7
              go_wp2_with (first | (go_at_call 11; refine CR.out.mono ?_))
              rintro e w8 ⟨x8, rfl, hx8, hb8⟩
              obtain ⟨xo8, xc8, rfl⟩ := own_form hx8
              have CB := hid (bytes_any _ _ LL w8 (HX7.out.old hb8) (Rd.own hx8))
              have HB8 : Hid (Below w5.heap.size w5 w8) := below_on2 HBj.out (below_on2 HB7.out hb8)
              clear hx8 hb8
              go_wp2_with (first | (go_at_call 12; refine CB.out.mono ?_; rintro e w9 ⟨rfl, rfl⟩))
              go_roundw
              case rel => exact ⟨j + 1, by omega, by omega, by go_num, HB8⟩
              case measure => first | (simp [intOf]; done) | (simp [intOf]; omega)
            · have hjI : (j : Int) < (n : Int) := by omega
              have hj4I : (40 : Int) ≤ (j : Int) := by omega
              go_wp2_with fail
              go_ret
              exact ⟨rfl, HA5.out.bel.trans (HBj.out.mono HA5.out.bel.size)⟩
          · have hjI : (n : Int) ≤ (j : Int) := by omega
            go_wp2_with fail
            go_ret
            exact ⟨rfl, HA5.out.bel.trans (HBj.out.mono HA5.out.bel.size)⟩
  · have CN := hid (new_bad z hz w)
    have hor : z < 1 ∨ (1 ≤ z ∧ 65536 < z) := by omega
    clear hz
    rcases hor with hz1 | ⟨hz1, hz2⟩
    · go_enter Try.func3, Try.ntmps3
      go_wp2_with (first
        | (go_at_call 7; refine CN.out.mono ?_; rintro e w1 ⟨rfl, rfl⟩)
        | (go_at_call 8; refine (awake_any _).mono ?_; rintro e w2 ⟨rfl, hb2⟩))
      go_ret
      exact ⟨rfl, hb2⟩
    · go_enter Try.func3, Try.ntmps3
      go_wp2_with (first
        | (go_at_call 7; refine CN.out.mono ?_; rintro e w1 ⟨rfl, rfl⟩)
        | (go_at_call 8; refine (awake_any _).mono ?_; rintro e w2 ⟨rfl, hb2⟩))
      go_ret
      exact ⟨rfl, hb2⟩

theorem walk {H : Type} {enc : TypeId × Value → H} {d : DataW H} {p : List MemPlace} {base : Nat} (z : Int) (x : Value) (w : World) (hw : Value.okWide Try.prog w .any base 22 x) (h : DataW.Trod enc Try.prog w 0 (fun _ => true) true 22 x d p)
    (hb : ∀ n ∈ d.weights Try.prog 22, n ≤ reachBytes) :
    Calls Try.prog 3 #[.int .i64 z, x] w (AnsP w (.bool true)) := by
  obtain ⟨a, len, cap, rfl⟩ := WideShapes.okWide_slice Try.underlying22 hw
  obtain ⟨M, hM, ho⟩ := ops_open h hb
  exact walk0 z _ M w ho
end diskPlays
end Go.Proofs.Ytihholgdpmbkeaa
