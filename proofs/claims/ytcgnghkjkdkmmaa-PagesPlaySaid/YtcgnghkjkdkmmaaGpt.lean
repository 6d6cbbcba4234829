/-
  PAIRS: the helper Put.
-/
import Derived.Test.YtcgnghkjkdkmmaaPr3
import Derived.Test.YtcgnghkjkdkmmaaGo
import Derived.Deep.AppendLies
import Derived.Deep.RegionLaw
import Derived.Deep.CutBlock
import Derived.Deep.CutRange
set_option linter.unusedVariables false
namespace Go.Proofs.Ytcgnghkjkdkmmaa
open Go.RowKit

/-- 'append(v, x...)' at a step of a region that draws its order. -/
theorem step_rapp {P : Program} {w : World} {ops : Array Oper} {o : Oper} {a : Act} {K : Act → World → Prop} {Q : Exit → Act → World → Prop} {E : Prop} (hgd : o.guard = none) (s x : Operand) (t : TypeId)
    (ho : o.op = .call { callee := .builtin .append, args := #[s, x], argTypes := #[t, t] })
    (base size bytes : Nat) (e : TypeId) (ht : P.underlying t = some (.slice e)) (z : Value) (hinfo : (P.info? e).map (fun i => (i.zero, i.size, i.bytes)) = some (some z, size, bytes)) (hzs : z.cells.size = size) (hsz : 0 < size)
    (v : Value) (n : Nat) (xs : List Value) (hs : a.eval s = v) (hown : w.ownsRow base e size v n xs)
    (y : Value) (L : List (List Value)) (hx : a.eval x = y) (hr : Rws size w y L) (hn : (n + L.length) * bytes ≤ 140737488355328) (hm : n + L.length ≤ maxLen) (hbase : base ≤ w.heap.size)
    (h : ∀ v' w', w'.ownsRow base e size v' (n + L.length) (xs ++ L.flatten) → w.grownBy w' v.ownBlock → K (a.put o.dst v') w') :
    if Region.wanted o (yielded ops a.tmps) = true then Oper.wp P o a w K Q else E := by
  have hw : Region.wanted o (yielded ops a.tmps) = true := by simp [Region.wanted, hgd]
  rw [if_pos hw]
  obtain ⟨i0, hi, hz0, hz1, hz2⟩ : ∃ i, P.info? e = some i ∧ i.zero = some z ∧ i.size = size ∧ i.bytes = bytes := by
    cases hq : P.info? e with
    | none => rw [hq] at hinfo; cases hinfo
    | some i => rw [hq] at hinfo; simp at hinfo; exact ⟨i, rfl, hinfo⟩
  obtain ⟨ao, c, rfl, h1, h2, h3, h5, h4⟩ := hr
  cases ao with
  | some ad =>
    exact wp_append_own w s x t ho base e i0 z size bytes ht hi hz0 hz1 hz2 hzs hsz v n xs hs hown ad L.length c L.flatten hx h5.len (h4 ad rfl) h5.one
      hm hn hbase fun v' w' a1 a2 _ => h v' w' a1 a2
  | none =>
    have hc := h3 rfl
    obtain rfl : L = [] := List.eq_nil_of_length_eq_zero (by omega)
    subst hc
    have hrun := run_append_owned_none (P := P) (w := w) base t o.type e i0 size ht hi v n xs hown
    unfold Oper.wp execOp
    simp only [List.length_nil] at hx
    simp only [ho, resolve, invoke, builtin, Sem.run_bind, Sem.run_pure, Result.andThen_ok, List.map_toArray, List.map_cons, List.map_nil, hs, hx, hrun]
    exact h v w (by simpa using hown) (World.grownBy.refl _ _)

theorem below_al {w W : World} (h : Below w.heap.size w W) (o : Obj) : Below w.heap.size w (W.alloc o) := h.alloc h.size o

theorem grown_nil {w1 W x5 : World} (h : Below w1.heap.size w1 W) (g : W.grownBy x5 (Value.slice none 0 0).ownBlock) : Below w1.heap.size w1 x5 ∧ Below W.heap.size W x5 :=
  ⟨h.grown g h.size (fun k hk => by cases hk), (Below.refl _ _).grown g (Nat.le_refl _) (fun k hk => by cases hk)⟩

theorem grown_own {w1 W x6 : World} {v : Value} {n : Nat} {xs : List Value} {e : TypeId} (h : Below w1.heap.size w1 W) (ho : W.ownsRow w1.heap.size e 3 v n xs) (g : W.grownBy x6 v.ownBlock) : Below w1.heap.size w1 x6 :=
  h.grown g h.size (fun k hk => (ho.lt k hk).1)

theorem put_made {w w1 x7 : World} {v7 : Value} {M : List Lp} {p : Lp} {k : Nat} {R : List (List Value)} (hb : Below w.heap.size w w1) (hb7 : Below w1.heap.size w1 x7)
    (ho : x7.ownsRow w1.heap.size 31 3 v7 (0 + ((M.map rowP).take k).length + [rowP p].length + R.length) ([] ++ ((M.map rowP).take k).flatten ++ [rowP p].flatten ++ R.flatten))
    (hp : putM M p = M.take k ++ p :: restM M k p) (hr : R = (restM M k p).map rowP) : MadeP w (putM M p) (.returned v7) x7 := by
  refine ⟨v7, rfl, ?_, hb.trans (hb7.mono hb.size)⟩
  have h := ownsRow_base ho hb.size
  subst hr
  rw [hp, List.length_append, List.length_cons, List.map_append, List.map_cons, List.flatten_append, List.flatten_cons]
  have e1 : 0 + ((M.map rowP).take k).length + [rowP p].length + ((restM M k p).map rowP).length = (M.take k).length + ((restM M k p).length + 1) := by
    rw [← List.map_take, List.length_map, List.length_map]; simp only [List.length_cons, List.length_nil]; omega
  have e2 : [] ++ ((M.map rowP).take k).flatten ++ [rowP p].flatten ++ ((restM M k p).map rowP).flatten = ((M.take k).map rowP).flatten ++ (rowP p ++ ((restM M k p).map rowP).flatten) := by
    rw [← List.map_take]; simp
  rw [e1, e2] at h
  exact h

theorem drewN_below {w wr : World} (h : Below w.heap.size w wr) (n : Nat) : Below w.heap.size w (wr.drewN n) := ⟨h.os, h.tape, h.output, h.size, h.block⟩

set_option maxHeartbeats 16000000 in
set_option maxRecDepth 100000 in
theorem hput_any (x : Value) (M : List Lp) (p : Lp) (w : World) (hx : Prs w x M) (hp : RdP w p) (hl : M.length ≤ 100000) :
    Calls Try.prog 23 #[x, pv p] w (MadeP w (putM M p)) := by
  obtain ⟨ao, c, rfl, hm⟩ := hx.form
  have B1 := (Below.refl w.heap.size w).alloc (Nat.le_refl _) (.cells #[.slice p.ka p.key.length p.kc, .slice p.va p.val.length p.vc, .int .i64 p.ver] 31)
  have HX := hid (hx.old B1)
  have HP := hid (hp.old B1)
  have HB1 := hid B1
  have HG : Hid ((w.alloc (.cells #[.slice p.ka p.key.length p.kc, .slice p.va p.val.length p.vc, .int .i64 p.ver] 31)).heap[w.heap.size]? = some (.cells #[.slice p.ka p.key.length p.kc, .slice p.va p.val.length p.vc, .int .i64 p.ver] 31 (0, 0))) := heap_alloc_new _ _
  clear hx hp hm B1
  unfold pv
  go_enter Try.func23, Try.ntmps23
  go_upto_block 0 with fail
  generalize w.alloc (.cells #[.slice p.ka p.key.length p.kc, .slice p.va p.val.length p.vc, .int .i64 p.ver] 31) = w1 at *
  obtain ⟨s1, s2, s3⟩ := cells3 HG.out
  go_cut [5] from 7 to 24 (fun i wx => ∃ k n : Nat, k ≤ M.length ∧ i = .int .i64 k ∧ wx = w1.drewN n ∧ Hid (∀ (j : Nat) (u : Lp), j < k → M[j]? = some u → Op.bytesLess u.key p.key = true) ∧ Hid (∀ (u : Lp), M[k]? = some u → Op.bytesLess u.key p.key = false))
  case first =>
    go_wp2_with fail
    go_loopw [5] (fun i wr => ∃ k n : Nat, k ≤ M.length ∧ i = .int .i64 k ∧ wr = w1.drewN n ∧ Hid (∀ (j : Nat) (u : Lp), j < k → M[j]? = some u → Op.bytesLess u.key p.key = true)) (fun i _ => M.length - (intOf i).toNat)
    case atStart => exact ⟨0, 0, by omega, rfl, rfl, fun j u h => by omega⟩
    case round =>
      obtain ⟨k, n, hk, rfl, rfl, HN⟩ := hrel
      by_cases hlt : k < M.length
      · have hv := List.getElem?_eq_getElem hlt
        generalize M[k] = m at *
        obtain ⟨b, off, rfl, d1, d2, d3⟩ := HX.out.get hv
        have hrd := HX.out.at hv
        have v1 := fun n => (show Rd (w1.drewN n) _ _ from hrd.1).conv (P := Try.prog) 23 9 5 Try.underlying23 Try.underlying5 Try.underlying9
        have v2 := fun n => (show Rd (w1.drewN n) _ _ from HP.out.1).conv (P := Try.prog) 23 9 5 Try.underlying23 Try.underlying5 Try.underlying9
        have HV := hid hv
        clear hv hrd
        cases h : Op.bytesLess m.key p.key with
        | true =>
          go_wp2_with fail
          go_quiet (fail)
          go_wp2_with fail
          go_roundw
          case rel =>
            refine ⟨k + 1, _, by omega, by go_num, rfl, fun j u hj hu => ?_⟩
            by_cases hjk : j < k
            · exact HN.out j u hjk hu
            · obtain rfl : j = k := by omega
              rw [HV.out] at hu
              cases hu
              exact h
          case measure => simp [intOf]; omega
        | false =>
          have HLS : Hid (∀ (u : Lp), M[k]? = some u → Op.bytesLess u.key p.key = false) := fun u hu => by rw [HV.out] at hu; cases hu; exact h
          go_wp2_with fail
          go_quiet (fail)
          rename_i nq
          go_wp2_with fail
          go_meet
          exact ⟨k, n + nq, hk, rfl, by rw [World.drewN_drewN], HN, HLS⟩
      · obtain rfl : k = M.length := by omega
        have HLS : Hid (∀ (u : Lp), M[M.length]? = some u → Op.bytesLess u.key p.key = false) := fun u hu => by simp at hu
        go_wp2_with fail
        go_quiet (fail)
        rename_i nq
        go_wp2_with fail
        go_meet
        exact ⟨M.length, n + nq, hk, rfl, by rw [World.drewN_drewN], HN, HLS⟩
  case rest =>
    obtain ⟨k, n, hk, rfl, rfl, HN, HLS⟩ := hcut
    obtain ⟨ao2, c2, hs2, hr2, -⟩ := HX.out.1.cut (P := Try.prog) (by decide) 29 31 Try.underlying29 (by kernel_rfl) k (by rw [List.length_map]; omega)
    rw [List.length_map] at hs2 hr2
    have HR2 := hid hr2
    clear hr2
    obtain ⟨ao4, c4, hs4, hr4, -⟩ := HX.out.1.head (P := Try.prog) 29 31 Try.underlying29 (by kernel_rfl) k (by rw [List.length_map]; omega)
    have hs4' := fun W => hs4 .i64 W
    have HR4 := hid hr4
    clear hs4 hr4
    go_upto_region 5 with fail
    go_cut [39] from 28 to 38 (fun b wx => ∃ n, b = .bool (match M[k]? with | some m => m.key == p.key | none => false) ∧ wx = w1.drewN n)
    case first =>
      rcases hq : M[k]? with _ | m
      · have hz : M.length - k = 0 := by have := List.getElem?_eq_none_iff.1 hq; omega
        have hpos : ¬ (0 : Int) < ((M.length - k : Nat) : Int) := by omega
        have hposd : decide ((0 : Int) < ((M.length - k : Nat) : Int)) = false := decide_eq_false hpos
        have hpos2 : ¬ 0 < M.length - k := by omega
        clear hz
        go_quiet (fail)
        rename_i nq
        go_wp2_with fail
        go_meet
        exact ⟨n + nq, by rw [hq], rfl⟩
      · have hlt : k < M.length := (List.getElem?_eq_some_iff.1 hq).1
        obtain ⟨b', off', rfl, hc2⟩ := HR2.out.get (by decide) (k := 0) (r := rowP m) (by rw [← List.map_drop, List.getElem?_map, List.getElem?_drop, Nat.add_zero, hq]; rfl)
        have e1 : w1.cell? ⟨b', off', none⟩ = some (.slice m.ka m.key.length m.kc) := by have := hc2 0 _ rfl; simpa using this
        have hrd := HX.out.at hq
        have CB := fun W (h1 : Rd W (.slice m.ka m.key.length m.kc) m.key) (h2 : Rd W (.slice p.ka p.key.length p.kc) p.key) => pbytes_any _ _ m.key p.key W h1 h2
        have C := fun a => (CB (w1.drewN (n + a)) (show Rd (w1.drewN (n + a)) _ _ from hrd.1) (show Rd (w1.drewN (n + a)) _ _ from HP.out.1)).mono (R' := fun e w'' => e = Ending.returned (.bool (m.key == p.key)) ∧ ∃ m, w'' = w1.drewN (n + m)) fun _ _ h => ⟨h.1, a, h.2⟩
        have hpos2 : 0 < M.length - k := by omega
        have hpos : (0 : Int) < ((M.length - k : Nat) : Int) := by omega
        have hposd : decide ((0 : Int) < ((M.length - k : Nat) : Int)) = true := decide_eq_true hpos
        clear hc2 hrd CB
        go_quiet ((go_at_call 26; exact C _))
        rename_i nq
        go_wp2_with fail
        go_meet
        exact ⟨n + nq, by rw [hq], by rw [World.drewN_drewN]⟩
    case rest =>
      obtain ⟨n2, rfl, rfl⟩ := hcut
      go_upto_if 39 with fail
      go_cut [6] from 39 to 41 (fun y wx => Hid (Rws 3 w1 y ((restM M k p).map rowP)) ∧ (∃ m, wx = w1.drewN m) ∧ ∃ a l c, y = .slice a l c)
      case first =>
        rcases hq : M[k]? with _ | m
        · have hE : restM M k p = [] := by unfold restM; rw [hq]
          have hz : M.length - k = 0 := by have := List.getElem?_eq_none_iff.1 hq; omega
          have h9 := HR2.out
          rw [List.drop_of_length_le (by rw [List.length_map]; omega)] at h9
          go_wp2_with fail
          go_meet
          exact ⟨by rw [hE]; exact h9, ⟨n2, rfl⟩, _, _, _, rfl⟩
        · have hlt : k < M.length := (List.getElem?_eq_some_iff.1 hq).1
          cases hmk : m.key == p.key with
          | true =>
            have hE : restM M k p = M.drop (k + 1) := by unfold restM; rw [hq]; simp only [hmk, if_true]
            obtain ⟨ao3, c3, hs3, hr3, -⟩ := HR2.out.cut (P := Try.prog) (by decide) 29 31 Try.underlying29 (by kernel_rfl) 1 (by rw [List.length_drop, List.length_map]; omega)
            rw [List.length_drop, List.length_map] at hs3 hr3
            have hs3' : ∀ W, (Instr.slice 29 (.slice ao2 (M.length - k) c2) (some (.int .i64 1)) none none).run Try.prog W = .ok (.slice ao3 (M.length - k - 1) c3) W := hs3
            have HR3 := hid hr3
            clear hs3 hr3
            simp only [hmk]
            go_wp2_with fail
            go_meet
            exact ⟨by rw [hE, List.map_drop, ← List.drop_drop]; exact HR3.out, ⟨n2, rfl⟩, _, _, _, rfl⟩
          | false =>
            have hE : restM M k p = M.drop k := by unfold restM; rw [hq]; simp only [hmk, Bool.false_eq_true, if_false]
            simp only [hmk]
            go_wp2_with fail
            go_meet
            exact ⟨by rw [hE, List.map_drop]; exact HR2.out, ⟨n2, rfl⟩, _, _, _, rfl⟩
      case rest =>
        obtain ⟨HR3, ⟨n3, rfl⟩, ya, yl, yc, rfl⟩ := hcut
        have LR : Hid ((restM M k p).length ≤ 100000) := by
          show _ ≤ _
          unfold restM
          split
          · split <;> (rw [List.length_drop]; omega)
          · simp
        go_wp2_with fail
        have R4 : Hid (∀ W, Below w1.heap.size w1 W → Rws 3 W (.slice ao4 k c4) ((M.map rowP).take k)) := fun W h => HR4.out.old h
        have R3 : Hid (∀ W, Below w1.heap.size w1 W → Rws 3 W (.slice ya yl yc) ((restM M k p).map rowP)) := fun W h => HR3.out.old h
        have RP : Hid (∀ W, Below w1.heap.size w1 W → Rws 3 (W.alloc (.cells #[.slice p.ka p.key.length p.kc, .slice p.va p.val.length p.vc, .int .i64 p.ver] 31)) (.slice (some ⟨W.heap.size, 0, none⟩) 1 1) [rowP p]) := fun W h => Rws.one (r := rowP p) rfl (HP.out.old h).wide
        have DB : Hid (∀ n, Below w1.heap.size w1 ((w1.drewN n).drew)) := fun n => ⟨rfl, rfl, rfl, Nat.le_refl _, fun _ _ => rfl⟩
        have LT : Hid (((M.map rowP).take k).length = k) := by show _ = _; rw [List.length_take, List.length_map]; omega
        have HLT : Hid (w.heap.size < w1.heap.size) := lt_of_block HG.out
        go_region_law (first
          | (refine step_rapp rfl (.const (.slice none 0 0)) (.tmp 44) 29 rfl w1.heap.size 3 56 31 Try.underlying29 (.agg #[.slice none 0 0, .slice none 0 0, .int .i64 0]) info_pair rfl (Nat.succ_pos 2) (.slice none 0 0) 0 [] (by rfl) (World.ownsRow_nil _ _ _ _) (.slice ao4 k c4) ((M.map rowP).take k) (by rfl) ?zar ?zan ?zam ?zab ?_
             case zar => first | exact R4.out _ (DB.out _) | exact R4.out _ (below_al (DB.out _) _)
             case zan => rw [LT.out]; omega
             case zam => rw [LT.out]; unfold maxLen; omega
             case zab => first | exact Nat.le_refl _ | (simp; done) | (simp; omega)
             intro v5 x5 o5 g5
             have hb5 : Below w1.heap.size w1 x5 := by first | exact (grown_nil (DB.out _) g5).1 | exact (grown_nil (below_al (DB.out _) _) g5).1
             have hx5 := (grown_nil (Below.refl _ _) g5).1
             have HX5 := hid hx5
             have HB5 := hid hb5
             have HO5 := hid o5
             have y1 := (cells3 ((HB5.out.block w.heap.size HLT.out).trans HG.out)).1
             have y2 := (cells3 ((HB5.out.block w.heap.size HLT.out).trans HG.out)).2.1
             have y3 := (cells3 ((HB5.out.block w.heap.size HLT.out).trans HG.out)).2.2
             clear o5 g5 hb5 hx5)
          | (refine step_rapp rfl (.tmp 48) (.tmp 49) 29 rfl w1.heap.size 3 56 31 Try.underlying29 (.agg #[.slice none 0 0, .slice none 0 0, .int .i64 0]) info_pair rfl (Nat.succ_pos 2) v6 ((0 + ((M.map rowP).take k).length) + [rowP p].length) (([] ++ ((M.map rowP).take k).flatten) ++ [rowP p].flatten) (by rfl) HO6.out (.slice ya yl yc) ((restM M k p).map rowP) (by rfl) ?zbr ?zbn ?zbm ?zbb ?_
             case zbr => exact R3.out _ HB6.out
             case zbn => have h9 := LT.out; have h10 := LR.out; simp only [List.length_cons, List.length_nil, List.length_map]; omega
             case zbm => have h9 := LT.out; unfold maxLen; have h10 := LR.out; simp only [List.length_cons, List.length_nil, List.length_map]; omega
             case zbb => exact HB6.out.size
             intro v7 x7 o7 g7
             have hb7 : Below w1.heap.size w1 x7 := grown_own HB6.out HO6.out g7
             have HB7 := hid hb7
             have HO7 := hid o7
             clear o7 g7 hb7)
          | (refine step_rapp rfl (.tmp 45) (.tmp 47) 29 rfl w1.heap.size 3 56 31 Try.underlying29 (.agg #[.slice none 0 0, .slice none 0 0, .int .i64 0]) info_pair rfl (Nat.succ_pos 2) v5 (0 + ((M.map rowP).take k).length) ([] ++ ((M.map rowP).take k).flatten) (by rfl) ?zco _ [rowP p] (by rfl) ?zcr ?zcn ?zcm ?zcb ?_
             case zco => first | exact HO5.out | exact HO5.out.alloc _
             case zcr => first | exact RP.out _ HB5.out | exact (RP.out _ (DB.out _)).old HX5.out
             case zcn => have h9 := LT.out; have h10 := LR.out; simp only [List.length_cons, List.length_nil]; omega
             case zcm => have h9 := LT.out; unfold maxLen; have h10 := LR.out; simp only [List.length_cons, List.length_nil]; omega
             case zcb => have := HB5.out.size; first | exact this | (simp; omega)
             intro v6 x6 o6 g6
             have hb6 : Below w1.heap.size w1 x6 := by first | exact grown_own HB5.out HO5.out g6 | exact grown_own (below_al HB5.out _) (HO5.out.alloc _) g6
             have HB6 := hid hb6
             have HO6 := hid o6
             clear o6 g6 hb6))
        all_goals
          go_wp2_with fail
          go_ret
          exact put_made HB1.out HB7.out HO7.out (putM_at p M k HN.out HLS.out hk) rfl
end Go.Proofs.Ytcgnghkjkdkmmaa
