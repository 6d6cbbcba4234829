/-
  THE LAW PagesPlay: its walk.
-/
import Derived.LoopN
import Derived.Sort.CutIn
import Derived.Deep.CutBlock
import Derived.Deep.RegionWith
import Derived.Deep.CutRange
import Derived.Test.YtcgnghkjkdkmmaaGpl
import Derived.Test.YtcgnghkjkdkmmaaGops
set_option linter.unusedVariables false
namespace Go.Proofs.Ytcgnghkjkdkmmaa
open Go.RowKit Go.Shelf
attribute [local go_sem] Oper.semAt_some

namespace pagesPlay
theorem fill_new {w w1 W : World} {mb : Nat} (hM : Mp w.heap.size w1 mb (.slice none 0 0) []) (hb : Below w.heap.size w w1) (hW : Below w1.heap.size w1 W) : Fill w.heap.size w mb 0 none 0 [] (.slice none 0 0) [] W :=
  ⟨hb.trans (hW.mono hM.base_le), hM.old hW, fit_nil, (fun m hm => by simp [mls] at hm), by simp [mls], Prs.nil W, ⟨fun h => (h rfl).elim, fun m hm => by cases hm⟩, by simp [mls]⟩

set_option maxHeartbeats 32000000 in
set_option maxRecDepth 100000 in
theorem walk0 (x fv tv : Value) (M : List Lop) (f t : List UInt8) (w : World) (hx : Ops w x M) (hf : Rd w fv f) (ht : Rd w tv t) (hb : ∀ o ∈ M, o.p.key.length ≤ 140737488355328 ∧ o.p.val.length ≤ 140737488355328) :
    Calls Try.prog 3 #[x, .agg #[fv, tv]] w (AnsP w (.bool true)) := by
  obtain ⟨xo, xc, rfl, hmx⟩ := hx.form
  have hff := hf
  have htt := ht
  obtain ⟨fa, fc, rfl, -⟩ := hff
  obtain ⟨ta, tc, rfl, -⟩ := htt
  unfold maxLen at hmx
  have hbz : Below w.heap.size w (w.alloc (.cells #[.slice fa f.length fc, .slice ta t.length tc] 25)) := (Below.refl _ _).alloc (Nat.le_refl _) _
  have hxs : (w.alloc (.cells #[.slice fa f.length fc, .slice ta t.length tc] 25)).heap[w.heap.size]? = some (.cells #[.slice fa f.length fc, .slice ta t.length tc] 25 (0, 0)) := heap_alloc_new _ _
  have hsz : w.heap.size < (w.alloc (.cells #[.slice fa f.length fc, .slice ta t.length tc] 25)).heap.size := by simp
  have HX0 := hid hx
  have HF0 := hid hf
  have HT0 := hid ht
  have HBB := hid hb
  clear hx hf ht hb
  go_enter Try.func3, Try.ntmps3
  go_upto_region 1 with fail
  generalize w.alloc (.cells #[.slice fa f.length fc, .slice ta t.length tc] 25) = wz at *
  have HX := hid (HX0.out.old hbz)
  have HF := hid (HF0.out.old hbz)
  have HT := hid (HT0.out.old hbz)
  have HBZ := hid hbz
  have HXS := hid hxs
  have HSZ := hid hsz
  clear hbz hxs hsz
  go_wp2_with (first | (go_at_call 9; refine (new_any wz.heap.size wz (Nat.le_refl _)).mono ?_))
  rintro e w1 ⟨rfl, hM1, hb1⟩
  go_wp2_with (first | (go_at_call 10; refine (awake_any w1).mono ?_))
  rintro e w2 ⟨rfl, hb2⟩
  have HF2 := hid (fill_new hM1 hb1 hb2)
  clear hM1 hb1 hb2
  go_wp2_with fail
  go_loopw [5, 6, 7] (fun a l i wr => ∃ (k mb : Nat) (la : Option Addr) (lc : Nat) (A : List Lp) (v : Value) (G : List Pg), k ≤ M.length ∧ k ≤ 120 ∧ a = .pointer (some ⟨mb, 0, none⟩) ∧ l = .slice la A.length lc ∧ i = .int .i64 k ∧ Hid (Fill wz.heap.size wz mb k la lc A v G wr)) (fun _ _ i _ => M.length - (intOf i).toNat)
  case atStart => exact ⟨0, _, none, 0, [], _, [], by omega, by omega, rfl, rfl, rfl, HF2⟩
  case round =>
    obtain ⟨k, mb, la, lc, A, v, G, hk, hk2, rfl, rfl, rfl, HFI⟩ := hrel
    by_cases hlt : k < M.length
    · by_cases hl2 : k < 120
      · have hlt' : (k : Int) < (M.length : Int) := by omega
        have hl2' : (k : Int) < 120 := by omega
        have hv := List.getElem?_eq_getElem hlt
        generalize M[k] = o at *
        have hbr := HFI.out.below
        obtain ⟨b, off, rfl, d0, d1, d2, d3, d4, d5⟩ := (HX.out.old hbr).get hv
        have hro := (HX.out.old hbr).at hv
        have o1 := one_rd hro.1.1
        have o2 := one_rd hro.1.2
        have o3 := one_rd hro.2.1
        have o4 := one_rd hro.2.2
        have HRO := hid hro
        have HRO0 := hid (HX.out.at hv)
        have HV := hid hv
        clear hv hro hbr
        go_upto_region 9 with fail
        have hbO : Below wr.heap.size wr (wr.alloc (.cells #[.int .i64 o.kind, .slice o.p.ka o.p.key.length o.p.kc, .slice o.p.va o.p.val.length o.p.vc, .int .i64 o.p.ver, .slice o.fa o.f.length o.fc, .slice o.ta o.t.length o.tc] 33)) := (Below.refl _ _).alloc (Nat.le_refl _) _
        have hxO : (wr.alloc (.cells #[.int .i64 o.kind, .slice o.p.ka o.p.key.length o.p.kc, .slice o.p.va o.p.val.length o.p.vc, .int .i64 o.p.ver, .slice o.fa o.f.length o.fc, .slice o.ta o.t.length o.tc] 33)).heap[wr.heap.size]? = some (.cells #[.int .i64 o.kind, .slice o.p.ka o.p.key.length o.p.kc, .slice o.p.va o.p.val.length o.p.vc, .int .i64 o.p.ver, .slice o.fa o.f.length o.fc, .slice o.ta o.t.length o.tc] 33 (0, 0)) := heap_alloc_new _ _
        generalize wr.alloc (.cells #[.int .i64 o.kind, .slice o.p.ka o.p.key.length o.p.kc, .slice o.p.va o.p.val.length o.p.vc, .int .i64 o.p.ver, .slice o.fa o.f.length o.fc, .slice o.ta o.t.length o.tc] 33) = wo at *
        have HFO : Hid (Fill wz.heap.size wz mb k la lc A v G wo) := HFI.out.old hbO
        have HXO := hid hxO
        have HBO := hid hbO
        have hob : wr.heap.size < wo.heap.size := lt_of_block hxO
        have HOB : Hid (∀ j, MX mb v j → j ≠ wr.heap.size) := fun j hj => by have := HFI.out.mp.mx_lt j hj; omega
        clear d0 d1 d2 d3 d4 d5
        obtain ⟨q0, q1, q2, q3, q4, q5⟩ := six_cells hxO
        clear hxO hbO
        generalize wr.heap.size = ob at *
        go_upto_block 2 with fail
        clear q0 q1 q2 q3 q4 q5
        go_cut [5, 6, 9, 10, 11, 12, 13, 14, 15] from 27 to 162 (fun a l _ _ _ _ _ _ _ wx => ∃ (mb' : Nat) (la' : Option Addr) (lc' : Nat) (A' : List Lp) (v' : Value) (G' : List Pg), a = .pointer (some ⟨mb', 0, none⟩) ∧ l = .slice la' A'.length lc' ∧ Hid (Fill wz.heap.size wz mb' (k + 1) la' lc' A' v' G' wx) ∧ Hid (wx.heap[ob]? = some (.cells #[.int .i64 o.kind, .slice o.p.ka o.p.key.length o.p.kc, .slice o.p.va o.p.val.length o.p.vc, .int .i64 o.p.ver, .slice o.fa o.f.length o.fc, .slice o.ta o.t.length o.tc] 33 (0, 0))))
        case first =>
          by_cases h1 : o.kind = 1
          · have h1' : (o.kind == 1) = true := by simpa using h1
            obtain ⟨q, b9, hfr, hb9, hq9, hz9⟩ := find_form A o.p.key
            have hk := HRO0.out.old HFO.out.below
            have CF : Hid (Calls Try.prog 11 #[.slice la A.length lc, .slice o.p.ka o.p.key.length o.p.kc] wo (AnsP wo (.tuple #[.agg #[.slice q.ka q.key.length q.kc, .slice q.va q.val.length q.vc, .int .i64 q.ver], .bool b9]))) := by
              have h := find_any (.slice la A.length lc) (.slice o.p.ka o.p.key.length o.p.kc) A o.p.key wo HFO.out.list hk.1.1
              rw [hfr] at h
              exact h
            have HQ9 := hid hq9
            have HZ9 := hid hz9
            have HB9 := hid hb9
            clear hfr hk hq9 hz9 hb9
            obtain ⟨q0, q1, q2, q3, q4, q5⟩ := six_cells HXO.out
            go_wp2_with (first | (go_at_call 11; refine CF.out.mono ?_))
            rintro e w3 ⟨rfl, hb3⟩
            clear q0 q1 q2 q3 q4 q5
            have HF3 : Hid (Fill wz.heap.size wz mb k la lc A v G w3) := HFO.out.old hb3
            have HX3 : Hid (w3.heap[ob]? = some (.cells #[.int .i64 o.kind, .slice o.p.ka o.p.key.length o.p.kc, .slice o.p.va o.p.val.length o.p.vc, .int .i64 o.p.ver, .slice o.fa o.f.length o.fc, .slice o.ta o.t.length o.tc] 33 (0, 0))) := (hb3.block _ hob).trans HXO.out
            have HQ3 : Hid (RdP w3 q) := by
              cases hb : b9 with
              | true => exact HF3.out.list.2 q (HQ9.out hb).1
              | false => rw [HZ9.out hb]; exact ⟨Rd.nil _, Rd.nil _⟩
            have p3 := one_rd HQ3.out.1
            have p4 := one_rd HQ3.out.2
            clear hb3
            go_upto_region 20 with fail
            have hbA : Below w3.heap.size w3 (w3.alloc (.cells #[.slice q.ka q.key.length q.kc, .slice q.va q.val.length q.vc, .int .i64 q.ver] 31)) := (Below.refl _ _).alloc (Nat.le_refl _) _
            generalize w3.alloc (.cells #[.slice q.ka q.key.length q.kc, .slice q.va q.val.length q.vc, .int .i64 q.ver] 31) = w4 at *
            have HF4 : Hid (Fill wz.heap.size wz mb k la lc A v G w4) := HF3.out.old hbA
            have HX4 : Hid (w4.heap[ob]? = some (.cells #[.int .i64 o.kind, .slice o.p.ka o.p.key.length o.p.kc, .slice o.p.va o.p.val.length o.p.vc, .int .i64 o.p.ver, .slice o.fa o.f.length o.fc, .slice o.ta o.t.length o.tc] 33 (0, 0))) := (hbA.block _ (lt_of_block HX3.out)).trans HX3.out
            have hk4 := HRO0.out.old HF4.out.below
            have CD : Hid (Calls Try.prog 12 #[.pointer (some ⟨mb, 0, none⟩), .slice o.p.ka o.p.key.length o.p.kc] w4 (DropA wz.heap.size mb v G o.p.key w4)) :=
              drop_any wz.heap.size mb v _ _ G o.p.key w4 (.inr ⟨rfl, HF4.out.mp⟩) HF4.out.fit hk4.1.1
            clear hbA hk4
            obtain ⟨q0, q1, q2, q3, q4, q5⟩ := six_cells HX4.out
            go_wp2_with (first | (go_at_call 12; refine CD.out.mono ?_))
            rintro e w5 hd
            obtain ⟨v', G', rfl, ht⟩ := drop_turned HF4.out.mp HF4.out.fit hd
            have he : ((mls G).flatten.any fun m => m.key == o.p.key) = b9 := by rw [HB9.out]; exact (any_lg HF4.out.same).symm
            rw [he]
            have HT5 := hid ht
            have HX5 : Hid (w5.heap[ob]? = some (.cells #[.int .i64 o.kind, .slice o.p.ka o.p.key.length o.p.kc, .slice o.p.va o.p.val.length o.p.vc, .int .i64 o.p.ver, .slice o.fa o.f.length o.fc, .slice o.ta o.t.length o.tc] 33 (0, 0))) := (ht.keep.block _ (lt_of_block HX4.out) (fun hX => HOB.out _ hX rfl)).trans HX4.out
            have hs5 := HF4.out.turn ht
            have hk5 := HRO0.out.old hs5.below
            have CC : Hid (Calls Try.prog 13 #[.slice la A.length lc, .slice o.p.ka o.p.key.length o.p.kc] w5 (MadeP w5 (A.filter (fun m => !(m.key == o.p.key))))) :=
              cut_any _ _ A o.p.key w5 hs5.list hk5.1.1 (by have := HF4.out.lenA; omega)
            clear hd ht he hs5 hk5 q0 q1 q2 q3 q4 q5
            obtain ⟨q0, q1, q2, q3, q4, q5⟩ := six_cells HX5.out
            go_wp2_with (first | (go_at_call 13; refine CC.out.mono ?_))
            rintro e w6 ⟨x, rfl, hx, hb6⟩
            obtain ⟨xa, xc2, rfl, hfill⟩ := Fill.dropped HF4.out HT5.out hx hb6
            have HFL := hid hfill
            have HX6 : Hid (w6.heap[ob]? = some (.cells #[.int .i64 o.kind, .slice o.p.ka o.p.key.length o.p.kc, .slice o.p.va o.p.val.length o.p.vc, .int .i64 o.p.ver, .slice o.fa o.f.length o.fc, .slice o.ta o.t.length o.tc] 33 (0, 0))) := (hb6.block _ (lt_of_block HX5.out)).trans HX5.out
            clear hx hb6 hfill q0 q1 q2 q3 q4 q5
            go_wp2_with fail
            go_meet
            exact ⟨mb, xa, xc2, _, v', G', rfl, rfl, HFL.out.more (by omega), HX6⟩
          · have h1' : (o.kind == 1) = false := by simpa using h1
            by_cases h2 : o.kind = 2
            · have h2' : (o.kind == 2) = true := by simpa using h2
              have hk := HRO0.out.old HFO.out.below
              have CP : Hid (Calls Try.prog 14 #[.slice la A.length lc, .agg #[.slice o.fa o.f.length o.fc, .slice o.ta o.t.length o.tc]] wo (MadeP wo (A.filter fun m => inSpan o.f o.t m.key))) :=
                part_any _ _ _ A o.f o.t wo HFO.out.list hk.2.1 hk.2.2 (by have := HFO.out.lenA; omega)
              clear hk
              obtain ⟨q0, q1, q2, q3, q4, q5⟩ := six_cells HXO.out
              go_wp2_with (first | (go_at_call 14; refine CP.out.mono ?_))
              rintro e w3 ⟨x, rfl, hx, hb3⟩
              clear q0 q1 q2 q3 q4 q5
              obtain ⟨xa, xc2, rfl⟩ := own_lenG hx
              obtain ⟨PL, hPL⟩ : ∃ PL, PL = A.filter fun m => inSpan o.f o.t m.key := ⟨_, rfl⟩
              rw [← hPL] at hx ⊢
              have HF3 : Hid (Fill wz.heap.size wz mb k la lc A v G w3) := HFO.out.old hb3
              have HX3 : Hid (w3.heap[ob]? = some (.cells #[.int .i64 o.kind, .slice o.p.ka o.p.key.length o.p.kc, .slice o.p.va o.p.val.length o.p.vc, .int .i64 o.p.ver, .slice o.fa o.f.length o.fc, .slice o.ta o.t.length o.tc] 33 (0, 0))) := (hb3.block _ hob).trans HXO.out
              have hPLl : PL.length ≤ 120 := by rw [hPL]; exact Nat.le_trans (List.length_filter_le _ _) (Nat.le_trans HF3.out.lenA hk2)
              have hPLg : PL.map lg = ((mls G).flatten.filter fun m => inSpan o.f o.t m.key).map lg := by rw [hPL]; exact part_lg HF3.out.same
              have hrp : RdG w3 ⟨xa, xc2, PL⟩ := Prs.own hx (fun m hm => HF3.out.list.2 m (by rw [hPL] at hm; exact (List.mem_filter.1 hm).1))
              have hop : OffG (MX mb v) ⟨xa, xc2, PL⟩ := ⟨fun _ a ha hk => by
                have h1 := (hx.lt a.block (by rw [show xa = some a from ha]; rfl)).1
                have h2 := HFO.out.mp.mx_lt _ hk
                omega, fun m hm => HF3.out.off.2 m (by rw [hPL] at hm; exact (List.mem_filter.1 hm).1)⟩
              have HPL := hid hPL
              have HPG := hid hPLg
              have HRP := hid hrp
              have HOP := hid hop
              have hk3 := HRO0.out.old HF3.out.below
              have CT : Hid (Calls Try.prog 16 #[.pointer (some ⟨mb, 0, none⟩), .agg #[.slice o.fa o.f.length o.fc, .slice o.ta o.t.length o.tc]] w3 (TakeA wz.heap.size mb v G o.f o.t w3)) :=
                take_any wz.heap.size mb v _ _ _ G o.f o.t w3 (.inr ⟨rfl, HF3.out.mp⟩) HF3.out.fit hk3.2.1 hk3.2.2 (by have := pages_few HF3.out; omega) (fun m hm => may_bytes (HF3.out.may m hm))
              clear hPL hPLg hrp hop hk3 hx hb3
              obtain ⟨q0, q1, q2, q3, q4, q5⟩ := six_cells HX3.out
              go_wp2_with (first | (go_at_call 16; refine CT.out.mono ?_))
              rintro e w4 hta
              obtain ⟨ya, yc, ys, v', G', rfl, hylg, hyrd, ht, -⟩ := take_turned HF3.out.mp HF3.out.fit hta
              have HX4 : Hid (w4.heap[ob]? = some (.cells #[.int .i64 o.kind, .slice o.p.ka o.p.key.length o.p.kc, .slice o.p.va o.p.val.length o.p.vc, .int .i64 o.p.ver, .slice o.fa o.f.length o.fc, .slice o.ta o.t.length o.tc] 33 (0, 0))) := (ht.keep.block _ (lt_of_block HX3.out) (fun hX => HOB.out _ hX rfl)).trans HX3.out
              have HS4 : Hid (Side wz.heap.size wz mb la lc A v' G' w4) := HF3.out.turn ht
              have HR4 : Hid (RdG w4 ⟨xa, xc2, PL⟩) := (ht.list HRP.out HOP.out).1
              have HT4 := hid ht
              have CS : Hid (Calls Try.prog 15 #[.slice ya ys.length yc, .slice xa PL.length xc2, .func (.func 17) #[] #[]] w4 (AnsP w4 (.bool true))) :=
                same_any _ _ ys PL w4 hyrd HR4.out (hylg.trans HPG.out.symm)
              clear q0 q1 q2 q3 q4 q5 hta hylg hyrd ht
              go_wp2_with (first | (go_at_call 15; refine CS.out.mono ?_))
              rintro e w5 ⟨rfl, hb5⟩
              have HS5 : Hid (Side wz.heap.size wz mb la lc A v' G' w5) := HS4.out.old hb5
              have HX5 : Hid (w5.heap[ob]? = some (.cells #[.int .i64 o.kind, .slice o.p.ka o.p.key.length o.p.kc, .slice o.p.va o.p.val.length o.p.vc, .int .i64 o.p.ver, .slice o.fa o.f.length o.fc, .slice o.ta o.t.length o.tc] 33 (0, 0))) := (hb5.block _ (lt_of_block HX4.out)).trans HX4.out
              have HR5 : Hid (RdG w5 ⟨xa, xc2, PL⟩) := HR4.out.old hb5
              clear hb5
              go_wp2_with fail
              go_loopw [6, 12] (fun l j wi => ∃ (jj : Nat) (ca : Option Addr) (cc : Nat), jj ≤ PL.length ∧ j = .int .i64 jj ∧ l = .slice ca (cutL A (PL.take jj)).length cc ∧ Hid (Side wz.heap.size wz mb ca cc (cutL A (PL.take jj)) v' G' wi ∧ Below w5.heap.size w5 wi)) (fun _ j _ => PL.length - (intOf j).toNat)
              case atStart =>
                refine ⟨0, la, lc, by omega, rfl, by rw [List.take_zero, cutL_nil], ?_⟩
                rw [List.take_zero, cutL_nil]
                exact ⟨HS5.out, Below.refl _ _⟩
              case round =>
                obtain ⟨jj, ca, cc, hjj, rfl, rfl, HI⟩ := hrel
                by_cases hjl : jj < PL.length
                · have hv := List.getElem?_eq_getElem hjl
                  generalize PL[jj] = u at *
                  have hrw := HR5.out.old HI.out.2
                  obtain ⟨b2, off2, rfl, e1, e2, e3⟩ := Prs.get (show Prs wr (.slice xa PL.length xc2) PL from hrw) hv
                  have hru := hrw.2 u (List.mem_of_getElem? hv)
                  have o5 := one_rd hru.1
                  have CC : Hid (Calls Try.prog 13 #[.slice ca (cutL A (PL.take jj)).length cc, .slice u.ka u.key.length u.kc] wr (MadeP wr (cutL A (PL.take (jj + 1))))) := by
                    have h := cut_any (.slice ca (cutL A (PL.take jj)).length cc) (.slice u.ka u.key.length u.kc) (cutL A (PL.take jj)) u.key wr HI.out.1.list hru.1 (by have h1 := cut_len A (PL.take jj); have h2 := HF3.out.lenA; omega)
                    rw [cutL_next hv] at h
                    exact h
                  have HV2 := hid hv
                  clear hv hrw hru
                  go_wp2_with (first | (go_at_call 13; refine CC.out.mono ?_))
                  rintro e w6 ⟨x, rfl, hx, hb6⟩
                  obtain ⟨ya2, yc2, rfl, hs6⟩ := HI.out.1.made hx hb6 (fun y hy => .inl (by rw [← cutL_next HV2.out] at hy; exact (List.mem_filter.1 hy).1))
                  have HI6 : Hid (Side wz.heap.size wz mb ya2 yc2 (cutL A (PL.take (jj + 1))) v' G' w6 ∧ Below w5.heap.size w5 w6) := ⟨hs6, HI.out.2.trans (hb6.mono HI.out.2.size)⟩
                  clear e1 e2 e3 hx hb6 hs6
                  go_wp2_with fail
                  go_roundw
                  case rel => exact ⟨jj + 1, ya2, yc2, by omega, by go_num, rfl, HI6⟩
                  case measure => simp [intOf]; omega
                · obtain rfl : jj = PL.length := by omega
                  have hcl : cutL A (PL.take PL.length) = A.filter fun m => !inSpan o.f o.t m.key := by rw [List.take_length, HPL.out]; exact cutL_part A o.f o.t
                  have HFL : Hid (Fill wz.heap.size wz mb (k + 1) ca cc (cutL A (PL.take PL.length)) v' G' wr) := by
                    refine HI.out.1.fill (fun m hm => ?_) ?_ ?_
                    · rw [HT4.out.flat] at hm
                      exact HF3.out.may m (List.mem_filter.1 hm).1
                    · rw [HT4.out.flat]
                      exact Nat.le_trans (List.length_filter_le _ _) (Nat.le_trans HF3.out.len (by omega))
                    · rw [HT4.out.flat, hcl]
                      exact gone_lg HF3.out.same
                  have HX9 : Hid (wr.heap[ob]? = some (.cells #[.int .i64 o.kind, .slice o.p.ka o.p.key.length o.p.kc, .slice o.p.va o.p.val.length o.p.vc, .int .i64 o.p.ver, .slice o.fa o.f.length o.fc, .slice o.ta o.t.length o.tc] 33 (0, 0))) := (HI.out.2.block _ (lt_of_block HX5.out)).trans HX5.out
                  clear hcl
                  go_wp2_with fail
                  go_meet
                  exact ⟨mb, ca, cc, _, v', G', rfl, rfl, HFL, HX9⟩
            · by_cases h3 : o.kind = 3
              · have h2' : (o.kind == 2) = false := by simpa using h2
                have h3' : (o.kind == 3) = true := by simpa using h3
                have CK : Hid (Calls Try.prog 18 #[.pointer (some ⟨mb, 0, none⟩)] wo (fun e w' => ∃ mb2 y, e = .returned (.pointer (some ⟨mb2, 0, none⟩)) ∧ Mp wo.heap.size w' mb2 y G ∧ Below wo.heap.size wo w')) :=
                  fork_any wz.heap.size mb v G wo HFO.out.mp (by have := pages_few HFO.out; omega)
                go_wp2_with (first | (go_at_call 18; refine CK.out.mono ?_))
                rintro e w3 ⟨mb2, y, rfl, hM2, hb3⟩
                have HM2 := hid hM2
                have HB3 := hid hb3
                have HF3 : Hid (Fill wz.heap.size wz mb k la lc A v G w3) := HFO.out.old hb3
                have HX3 : Hid (w3.heap[ob]? = some (.cells #[.int .i64 o.kind, .slice o.p.ka o.p.key.length o.p.kc, .slice o.p.va o.p.val.length o.p.vc, .int .i64 o.p.ver, .slice o.fa o.f.length o.fc, .slice o.ta o.t.length o.tc] 33 (0, 0))) := (hb3.block _ hob).trans HXO.out
                have CT : Hid (Calls Try.prog 16 #[.pointer (some ⟨mb, 0, none⟩), .agg #[.slice none 0 0, .slice none 0 0]] w3 (TakeA wz.heap.size mb v G [] [] w3)) :=
                  take_any wz.heap.size mb v _ _ _ G [] [] w3 (.inr ⟨rfl, HF3.out.mp⟩) HF3.out.fit (Rd.nil _) (Rd.nil _) (by have := pages_few HF3.out; omega) (fun m hm => may_bytes (HF3.out.may m hm))
                clear hM2 hb3
                go_wp2_with (first | (go_at_call 16; refine CT.out.mono ?_))
                rintro e w4 hta
                obtain ⟨ya, yc, ys, v', G', rfl, -, -, ht, -⟩ := take_turned HF3.out.mp HF3.out.fit hta
                have HX4 : Hid (w4.heap[ob]? = some (.cells #[.int .i64 o.kind, .slice o.p.ka o.p.key.length o.p.kc, .slice o.p.va o.p.val.length o.p.vc, .int .i64 o.p.ver, .slice o.fa o.f.length o.fc, .slice o.ta o.t.length o.tc] 33 (0, 0))) := (ht.keep.block _ (lt_of_block HX3.out) (fun hX => HOB.out _ hX rfl)).trans HX3.out
                have HFL : Hid (Fill wz.heap.size wz mb2 (k + 1) la lc A y G w4) := (HFO.out.forked HM2.out HB3.out ht).more (by omega)
                clear hta ht
                go_wp2_with fail
                go_meet
                exact ⟨mb2, la, lc, A, y, G, rfl, rfl, HFL, HX4⟩
              · have h2' : (o.kind == 2) = false := by simpa using h2
                have h3' : (o.kind == 3) = false := by simpa using h3
                have HML := hid (HBB.out o (List.mem_of_getElem? HV.out))
                have hk := HRO0.out.old HFO.out.below
                have CC : Hid (Calls Try.prog 19 #[.agg #[.slice o.p.ka o.p.key.length o.p.kc, .slice o.p.va o.p.val.length o.p.vc, .int .i64 o.p.ver]] wo (CopyA o.p wo)) := copyP_any o.p wo hk.1 HML.out.1 HML.out.2
                clear hk
                obtain ⟨q0, q1, q2, q3, q4, q5⟩ := six_cells HXO.out
                go_wp2_with (first | (go_at_call 19; refine CC.out.mono ?_))
                rintro e w3 ⟨m', hal, rfl, hmi, hb3⟩
                clear q0 q1 q2 q3 q4 q5
                unfold pv
                have HAL := hid hal
                have HM3 := hid hmi
                have HB3 := hid hb3
                have HF3 : Hid (Fill wz.heap.size wz mb k la lc A v G w3) := HFO.out.old hb3
                have HX3 : Hid (w3.heap[ob]? = some (.cells #[.int .i64 o.kind, .slice o.p.ka o.p.key.length o.p.kc, .slice o.p.va o.p.val.length o.p.vc, .int .i64 o.p.ver, .slice o.fa o.f.length o.fc, .slice o.ta o.t.length o.tc] 33 (0, 0))) := (hb3.block _ hob).trans HXO.out
                have p3 := one_rd hmi.rd.1
                have p4 := one_rd hmi.rd.2
                clear hal hmi hb3
                go_upto_region 11 with fail
                have hbA : Below w3.heap.size w3 (w3.alloc (.cells #[.slice m'.ka m'.key.length m'.kc, .slice m'.va m'.val.length m'.vc, .int .i64 m'.ver] 31)) := (Below.refl _ _).alloc (Nat.le_refl _) _
                have hxA : (w3.alloc (.cells #[.slice m'.ka m'.key.length m'.kc, .slice m'.va m'.val.length m'.vc, .int .i64 m'.ver] 31)).heap[w3.heap.size]? = some (.cells #[.slice m'.ka m'.key.length m'.kc, .slice m'.va m'.val.length m'.vc, .int .i64 m'.ver] 31 (0, 0)) := heap_alloc_new _ _
                generalize w3.alloc (.cells #[.slice m'.ka m'.key.length m'.kc, .slice m'.va m'.val.length m'.vc, .int .i64 m'.ver] 31) = w4 at *
                have HF4 : Hid (Fill wz.heap.size wz mb k la lc A v G w4) := HF3.out.old hbA
                have HX4 : Hid (w4.heap[ob]? = some (.cells #[.int .i64 o.kind, .slice o.p.ka o.p.key.length o.p.kc, .slice o.p.va o.p.val.length o.p.vc, .int .i64 o.p.ver, .slice o.fa o.f.length o.fc, .slice o.ta o.t.length o.tc] 33 (0, 0))) := (hbA.block _ (lt_of_block HX3.out)).trans HX3.out
                have HM4 : Hid (Mine wo.heap.size w4 m') := HM3.out.old hbA
                have HA4 := hid hxA
                have HB4 : Hid (Below wo.heap.size wo w4) := HB3.out.trans (hbA.mono HB3.out.size)
                have HW3 : Hid (wo.heap.size ≤ w3.heap.size ∧ w3.heap.size < w4.heap.size) := ⟨HB3.out.size, lt_of_block hxA⟩
                have hmm : mayE m' = mayE o.p := mayE_alike HAL.out
                obtain ⟨L1, hL1⟩ : ∃ L1 : Lp → List Lp, ∀ m2, L1 m2 = if mayE o.p = 0 then putM (mls G).flatten m2 else (mls G).flatten := ⟨_, fun _ => rfl⟩
                have HL1 := hid hL1
                have CPU : Hid (Calls Try.prog 20 #[.pointer (some ⟨mb, 0, none⟩), .agg #[.slice m'.ka m'.key.length m'.kc, .slice m'.va m'.val.length m'.vc, .int .i64 m'.ver]] w4 (fun e w' => e = .returned (.int .i64 (mayE o.p)) ∧ ∃ m2 v' G', Alike m2 m' ∧ Turned wz.heap.size mb v G (L1 m2) w4 w' v' G')) := by
                  have h := put_all wz.heap.size mb v G m' w4 HF4.out.mp HF4.out.fit HM4.out.rd (by have := HF4.out.len; omega)
                  rw [hmm] at h
                  simp only [← hL1] at h
                  exact h
                obtain ⟨a0, a1, a2⟩ := cells3 hxA
                clear hbA hxA hmm hL1
                go_wp2_with (first | (go_at_call 20; refine CPU.out.mono ?_))
                rintro e w5 ⟨rfl, m2, v', G', hal2, ht⟩
                have HAL2 := hid hal2
                have HT5 := hid ht
                have HLT : Hid (∀ j, MX mb v j → j < wo.heap.size) := HFO.out.mp.mx_lt
                have HX5 : Hid (w5.heap[ob]? = some (.cells #[.int .i64 o.kind, .slice o.p.ka o.p.key.length o.p.kc, .slice o.p.va o.p.val.length o.p.vc, .int .i64 o.p.ver, .slice o.fa o.f.length o.fc, .slice o.ta o.t.length o.tc] 33 (0, 0))) := (ht.keep.block _ (lt_of_block HX4.out) (fun hX => HOB.out _ hX rfl)).trans HX4.out
                have HA5 : Hid (w5.heap[w3.heap.size]? = some (.cells #[.slice m'.ka m'.key.length m'.kc, .slice m'.va m'.val.length m'.vc, .int .i64 m'.ver] 31 (0, 0))) := (ht.keep.block _ HW3.out.2 (fun hX => by have h1 := HLT.out _ hX; have h2 := HW3.out.1; omega)).trans HA4.out
                have HM5 : Hid (Mine wo.heap.size w5 m') := HM4.out.turned ht HLT.out
                have HS5 : Hid (Side wz.heap.size wz mb la lc A v' G' w5) := HF4.out.turn ht
                have CM : Hid (Calls Try.prog 21 #[.agg #[.slice o.p.ka o.p.key.length o.p.kc, .slice o.p.va o.p.val.length o.p.vc, .int .i64 o.p.ver]] w5 (AnsP w5 (.int .i64 (mayE o.p)))) := may_any o.p w5 (HRO0.out.old HS5.out.below).1
                clear hal2 ht a0 a1 a2
                obtain ⟨q0, q1, q2, q3, q4, q5⟩ := six_cells HX5.out
                go_wp2_with (first | (go_at_call 21; refine CM.out.mono ?_))
                rintro e w6 ⟨rfl, hb6⟩
                clear q0 q1 q2 q3 q4 q5
                have HB6 := hid hb6
                have HX6 : Hid (w6.heap[ob]? = some (.cells #[.int .i64 o.kind, .slice o.p.ka o.p.key.length o.p.kc, .slice o.p.va o.p.val.length o.p.vc, .int .i64 o.p.ver, .slice o.fa o.f.length o.fc, .slice o.ta o.t.length o.tc] 33 (0, 0))) := (hb6.block _ (lt_of_block HX5.out)).trans HX5.out
                have HA6 : Hid (w6.heap[w3.heap.size]? = some (.cells #[.slice m'.ka m'.key.length m'.kc, .slice m'.va m'.val.length m'.vc, .int .i64 m'.ver] 31 (0, 0))) := (hb6.block _ (lt_of_block HA5.out)).trans HA5.out
                have HM6 : Hid (Mine wo.heap.size w6 m') := HM5.out.old hb6
                have HS6 : Hid (Side wz.heap.size wz mb la lc A v' G' w6) := HS5.out.old hb6
                have CP : Hid (Calls Try.prog 17 #[.agg #[.slice m'.ka m'.key.length m'.kc, .slice m'.va m'.val.length m'.vc, .int .i64 m'.ver], .agg #[.slice o.p.ka o.p.key.length o.p.kc, .slice o.p.va o.p.val.length o.p.vc, .int .i64 o.p.ver]] w6 (AnsP w6 (.bool true))) := by
                  have h := pair_any m' o.p w6 HM6.out.rd (HRO0.out.old HS6.out.below).1
                  rw [lg_same (alike_lg HAL.out)] at h
                  exact h
                clear hb6
                obtain ⟨q0, q1, q2, q3, q4, q5⟩ := six_cells HX6.out
                obtain ⟨a0, a1, a2⟩ := cells3 HA6.out
                go_wp2_with (first | (go_at_call 17; refine CP.out.mono ?_))
                rintro e w7 ⟨rfl, hb7⟩
                clear q0 q1 q2 q3 q4 q5 a0 a1 a2
                have HB7 := hid hb7
                have HX7 : Hid (w7.heap[ob]? = some (.cells #[.int .i64 o.kind, .slice o.p.ka o.p.key.length o.p.kc, .slice o.p.va o.p.val.length o.p.vc, .int .i64 o.p.ver, .slice o.fa o.f.length o.fc, .slice o.ta o.t.length o.tc] 33 (0, 0))) := (hb7.block _ (lt_of_block HX6.out)).trans HX6.out
                have HA7 : Hid (w7.heap[w3.heap.size]? = some (.cells #[.slice m'.ka m'.key.length m'.kc, .slice m'.va m'.val.length m'.vc, .int .i64 m'.ver] 31 (0, 0))) := (hb7.block _ (lt_of_block HA6.out)).trans HA6.out
                have HM7 : Hid (Mine wo.heap.size w7 m') := HM6.out.old hb7
                have CS1 : Hid (Calls Try.prog 22 #[.slice m'.ka m'.key.length m'.kc] w7 (Spoilt w7 (Value.slice m'.ka m'.key.length m'.kc).ownBlock)) :=
                  spoil_own w7 wo.heap.size _ m'.key HM7.out.k (by rw [HAL.out.1]; exact HML.out.1)
                clear hb7
                obtain ⟨a0, a1, a2⟩ := cells3 HA7.out
                go_wp2_with (first | (go_at_call 22; refine CS1.out.mono ?_))
                rintro e w8 ⟨rfl, g8⟩
                clear a0 a1 a2
                have HG8 := hid g8
                have HA8 : Hid (w8.heap[w3.heap.size]? = some (.cells #[.slice m'.ka m'.key.length m'.kc, .slice m'.va m'.val.length m'.vc, .int .i64 m'.ver] 31 (0, 0))) := heap_kept g8 HA7.out (fun e => by have := (HM3.out.k.lt _ e.symm).2; omega)
                have HV8 : Hid (w8.ownsRow wo.heap.size 5 1 (.slice m'.va m'.val.length m'.vc) m'.val.length (m'.val.map bv)) := by
                  refine HM7.out.v.kept g8 ?_
                  have hap := HM7.out.apart
                  cases hva : m'.va with
                  | none => exact .inl rfl
                  | some z =>
                    refine .inr (fun e => ?_)
                    cases hka : m'.ka with
                    | none => rw [hka] at e; cases e
                    | some y =>
                      rw [hka] at e
                      exact hap y z hka hva (by simpa [Value.ownBlock] using e.symm)
                have CS2 : Hid (Calls Try.prog 22 #[.slice m'.va m'.val.length m'.vc] w8 (Spoilt w8 (Value.slice m'.va m'.val.length m'.vc).ownBlock)) :=
                  spoil_own w8 wo.heap.size _ m'.val HV8.out (by rw [HAL.out.2.1]; exact HML.out.2)
                clear g8
                obtain ⟨a0, a1, a2⟩ := cells3 HA8.out
                go_wp2_with (first | (go_at_call 22; refine CS2.out.mono ?_))
                rintro e w9 ⟨rfl, g9⟩
                clear a0 a1 a2
                have hq : Keep (fun j => wo.heap.size ≤ j ∧ j < w4.heap.size) w5 w9 :=
                  (((Keep.of_below HB6.out).trans (Keep.of_below HB7.out)).trans (Keep.of_grown HG8.out (fun j e => ⟨(HM3.out.k.lt j e).1, Nat.lt_trans (HM3.out.k.lt j e).2 HW3.out.2⟩))).trans (Keep.of_grown g9 (fun j e => ⟨(HM3.out.v.lt j e).1, Nat.lt_trans (HM3.out.v.lt j e).2 HW3.out.2⟩))
                obtain ⟨hs9, hk9⟩ := HFO.out.spoilt HB4.out HT5.out hq (fun j h => h)
                have HS9 := hid hs9
                have HX9 : Hid (w9.heap[ob]? = some (.cells #[.int .i64 o.kind, .slice o.p.ka o.p.key.length o.p.kc, .slice o.p.va o.p.val.length o.p.vc, .int .i64 o.p.ver, .slice o.fa o.f.length o.fc, .slice o.ta o.t.length o.tc] 33 (0, 0))) := (hk9.block _ hob (fun hX => HOB.out _ hX rfl)).trans HXO.out
                clear hq hs9 hk9 g9
                by_cases hm0 : mayE o.p = 0
                · have hm0' : (mayE o.p == 0) = true := by simpa using hm0
                  have HM0 := hid hm0
                  have CH : Hid (Calls Try.prog 23 #[.slice la A.length lc, .agg #[.slice o.p.ka o.p.key.length o.p.kc, .slice o.p.va o.p.val.length o.p.vc, .int .i64 o.p.ver]] w9 (MadeP w9 (putM A o.p))) :=
                    hput_any _ A o.p w9 HS9.out.list (HRO0.out.old HS9.out.below).1 (by have := HFO.out.lenA; omega)
                  clear hm0
                  obtain ⟨q0, q1, q2, q3, q4, q5⟩ := six_cells HX9.out
                  go_wp2_with (first | (go_at_call 23; refine CH.out.mono ?_))
                  rintro e w10 ⟨x, rfl, hx, hb10⟩
                  obtain ⟨xa, xc2, rfl, hs10⟩ := HS9.out.made hx hb10 (fun y hy => by
                    rcases mem_putM hy with rfl | hy
                    · exact .inr (HS9.out.came rfl HRO0.out.1)
                    · exact .inl hy)
                  have HFL : Hid (Fill wz.heap.size wz mb (k + 1) xa xc2 (putM A o.p) v' G' w10) := by
                    have hfl := HT5.out.flat
                    rw [HL1.out, if_pos HM0.out] at hfl
                    refine hs10.fill (fun m hm => ?_) ?_ ?_
                    · rw [hfl] at hm
                      rcases mem_putM hm with rfl | hm
                      · rw [mayE_alike HAL2.out, mayE_alike HAL.out]; exact HM0.out
                      · exact HFO.out.may m hm
                    · rw [hfl]
                      have h1 := len_putM m2 (mls G).flatten
                      have h2 := HFO.out.len
                      omega
                    · rw [hfl]
                      exact putM_lg (by rw [alike_lg HAL2.out, alike_lg HAL.out]) HFO.out.same
                  have HX10 : Hid (w10.heap[ob]? = some (.cells #[.int .i64 o.kind, .slice o.p.ka o.p.key.length o.p.kc, .slice o.p.va o.p.val.length o.p.vc, .int .i64 o.p.ver, .slice o.fa o.f.length o.fc, .slice o.ta o.t.length o.tc] 33 (0, 0))) := (hb10.block _ (lt_of_block HX9.out)).trans HX9.out
                  clear hx hb10 hs10 q0 q1 q2 q3 q4 q5
                  go_wp2_with fail
                  go_meet
                  exact ⟨mb, xa, xc2, _, v', G', rfl, rfl, HFL, HX10⟩
                · have hm0' : (mayE o.p == 0) = false := by simpa using hm0
                  have HFL : Hid (Fill wz.heap.size wz mb (k + 1) la lc A v' G' w9) := by
                    have hfl := HT5.out.flat
                    rw [HL1.out, if_neg hm0] at hfl
                    refine HS9.out.fill (fun m hm => ?_) ?_ ?_
                    · rw [hfl] at hm; exact HFO.out.may m hm
                    · rw [hfl]; exact Nat.le_trans HFO.out.len (by omega)
                    · rw [hfl]; exact HFO.out.same
                  clear hm0
                  go_wp2_with fail
                  go_meet
                  exact ⟨mb, la, lc, A, v', G', rfl, rfl, HFL, HX9⟩
        case rest =>
          obtain ⟨mb', la', lc', A', v', G', rfl, rfl, HFC, HXC⟩ := hcut
          have hbc := HFC.out.below
          have hk9 := HRO0.out.old hbc
          obtain ⟨q, b9, hfr, hb9, hq9, hz9⟩ := find_form A' o.p.key
          have HQ9 := hid hq9
          have HZ9 := hid hz9
          have HB9 := hid hb9
          have CG : Hid (Calls Try.prog 24 #[.pointer (some ⟨mb', 0, none⟩), .slice o.p.ka o.p.key.length o.p.kc] wc (GetA G' o.p.key wc)) :=
            get_any _ _ G' _ wc (.inr ⟨_, _, _, rfl, HFC.out.mp⟩) HFC.out.fit hk9.1.1 (fun g hg m hm => may_bytes (HFC.out.may m (List.mem_flatten.2 ⟨g.M, mls_mem hg, hm⟩)))
          clear hq9 hz9 hb9 hk9 hbc
          obtain ⟨q0, q1, q2, q3, q4, q5⟩ := six_cells HXC.out
          go_wp2_with (first | (go_at_call 24; refine CG.out.mono ?_))
          rintro e w3 hg3
          obtain ⟨p9, rfl, hp9, hb3, hsm⟩ := get_form hg3 HFC.out.same HFC.out.fit.srt HB9.out HQ9.out HZ9.out
          clear hg3 q0 q1 q2 q3 q4 q5
          have HF3 : Hid (Fill wz.heap.size wz mb' (k + 1) la' lc' A' v' G' w3) := HFC.out.old hb3
          have HX3 : Hid (w3.heap[ob]? = some (.cells #[.int .i64 o.kind, .slice o.p.ka o.p.key.length o.p.kc, .slice o.p.va o.p.val.length o.p.vc, .int .i64 o.p.ver, .slice o.fa o.f.length o.fc, .slice o.ta o.t.length o.tc] 33 (0, 0))) := (hb3.block _ (lt_of_block HXC.out)).trans HXC.out
          have HP9 := hid hp9
          have HSM := hid hsm
          have p1 := one_rd hp9.1
          have p2 := one_rd hp9.2
          clear hb3 hp9 hsm
          go_upto_region 38 with fail
          have hbA : Below w3.heap.size w3 (w3.alloc (.cells #[.slice p9.ka p9.key.length p9.kc, .slice p9.va p9.val.length p9.vc, .int .i64 p9.ver] 31)) := (Below.refl _ _).alloc (Nat.le_refl _) _
          have hxA : (w3.alloc (.cells #[.slice p9.ka p9.key.length p9.kc, .slice p9.va p9.val.length p9.vc, .int .i64 p9.ver] 31)).heap[w3.heap.size]? = some (.cells #[.slice p9.ka p9.key.length p9.kc, .slice p9.va p9.val.length p9.vc, .int .i64 p9.ver] 31 (0, 0)) := heap_alloc_new _ _
          generalize w3.alloc (.cells #[.slice p9.ka p9.key.length p9.kc, .slice p9.va p9.val.length p9.vc, .int .i64 p9.ver] 31) = w4 at *
          have HF4 : Hid (Fill wz.heap.size wz mb' (k + 1) la' lc' A' v' G' w4) := HF3.out.old hbA
          have HX4 : Hid (w4.heap[ob]? = some (.cells #[.int .i64 o.kind, .slice o.p.ka o.p.key.length o.p.kc, .slice o.p.va o.p.val.length o.p.vc, .int .i64 o.p.ver, .slice o.fa o.f.length o.fc, .slice o.ta o.t.length o.tc] 33 (0, 0))) := (hbA.block _ (lt_of_block HX3.out)).trans HX3.out
          have HP4 : Hid (RdP w4 p9) := HP9.out.old hbA
          have HA4 := hid hxA
          have h34 : w3.heap.size < w4.heap.size := lt_of_block hxA
          clear hbA hxA
          have hk4 := HRO0.out.old HF4.out.below
          have CF : Hid (Calls Try.prog 11 #[.slice la' A'.length lc', .slice o.p.ka o.p.key.length o.p.kc] w4 (AnsP w4 (.tuple #[.agg #[.slice q.ka q.key.length q.kc, .slice q.va q.val.length q.vc, .int .i64 q.ver], .bool b9]))) := by
            have h := find_any (.slice la' A'.length lc') (.slice o.p.ka o.p.key.length o.p.kc) A' o.p.key w4 HF4.out.list hk4.1.1
            rw [hfr] at h
            exact h
          clear hfr hk4
          obtain ⟨q0, q1, q2, q3, q4, q5⟩ := six_cells HX4.out
          go_wp2_with (first | (go_at_call 11; refine CF.out.mono ?_))
          rintro e w5 ⟨rfl, hb5⟩
          clear q0 q1 q2 q3 q4 q5
          have HF5 : Hid (Fill wz.heap.size wz mb' (k + 1) la' lc' A' v' G' w5) := HF4.out.old hb5
          have HX5 : Hid (w5.heap[ob]? = some (.cells #[.int .i64 o.kind, .slice o.p.ka o.p.key.length o.p.kc, .slice o.p.va o.p.val.length o.p.vc, .int .i64 o.p.ver, .slice o.fa o.f.length o.fc, .slice o.ta o.t.length o.tc] 33 (0, 0))) := (hb5.block _ (lt_of_block HX4.out)).trans HX4.out
          have HP5 : Hid (RdP w5 p9) := HP4.out.old hb5
          have HA5 : Hid (w5.heap[w3.heap.size]? = some (.cells #[.slice p9.ka p9.key.length p9.kc, .slice p9.va p9.val.length p9.vc, .int .i64 p9.ver] 31 (0, 0))) := (hb5.block _ h34).trans HA4.out
          have HQ5 : Hid (RdP w5 q) := by
            cases hb : b9 with
            | true => exact HF5.out.list.2 q (HQ9.out hb).1
            | false => rw [HZ9.out hb]; exact ⟨Rd.nil _, Rd.nil _⟩
          have p3 := one_rd HQ5.out.1
          have p4 := one_rd HQ5.out.2
          clear hb5
          go_upto_region 39 with fail
          have hbA : Below w5.heap.size w5 (w5.alloc (.cells #[.slice q.ka q.key.length q.kc, .slice q.va q.val.length q.vc, .int .i64 q.ver] 31)) := (Below.refl _ _).alloc (Nat.le_refl _) _
          have hxA : (w5.alloc (.cells #[.slice q.ka q.key.length q.kc, .slice q.va q.val.length q.vc, .int .i64 q.ver] 31)).heap[w5.heap.size]? = some (.cells #[.slice q.ka q.key.length q.kc, .slice q.va q.val.length q.vc, .int .i64 q.ver] 31 (0, 0)) := heap_alloc_new _ _
          generalize w5.alloc (.cells #[.slice q.ka q.key.length q.kc, .slice q.va q.val.length q.vc, .int .i64 q.ver] 31) = w6 at *
          have h35 : w3.heap.size < w5.heap.size := lt_of_block HA5.out
          have HF6 : Hid (Fill wz.heap.size wz mb' (k + 1) la' lc' A' v' G' w6) := HF5.out.old hbA
          have hp6 := HP5.out.old hbA
          have hq6 := HQ5.out.old hbA
          have ha6 : w6.heap[w3.heap.size]? = some (.cells #[.slice p9.ka p9.key.length p9.kc, .slice p9.va p9.val.length p9.vc, .int .i64 p9.ver] 31 (0, 0)) := (hbA.block _ h35).trans HA5.out
          have hs6 := (HF6.out.below.block _ HSZ.out).trans HXS.out
          obtain ⟨a0, a1, a2⟩ := cells3 ha6
          obtain ⟨c0, c1, c2⟩ := cells3 hxA
          obtain ⟨t0, t1, -, -⟩ := two_cells hs6
          have CP : Hid (Calls Try.prog 17 #[.agg #[.slice p9.ka p9.key.length p9.kc, .slice p9.va p9.val.length p9.vc, .int .i64 p9.ver], .agg #[.slice q.ka q.key.length q.kc, .slice q.va q.val.length q.vc, .int .i64 q.ver]] w6 (AnsP w6 (.bool true))) := by
            have h := pair_any p9 q w6 hp6 hq6
            rw [HSM.out] at h
            exact h
          have HS6 := hid hs6
          clear hbA hxA hp6 hq6 ha6 hs6
          go_wp2_with (first | (go_at_call 17; refine CP.out.mono ?_))
          rintro e w7 ⟨rfl, hb7⟩
          have HF7 : Hid (Fill wz.heap.size wz mb' (k + 1) la' lc' A' v' G' w7) := HF6.out.old hb7
          have hs7 := (hb7.block _ (lt_of_block HS6.out)).trans HS6.out
          clear a0 a1 a2 c0 c1 c2 t0 t1 hb7
          obtain ⟨t0, t1, -, -⟩ := two_cells hs7
          have CT : Hid (Calls Try.prog 25 #[.pointer (some ⟨mb', 0, none⟩), .slice la' A'.length lc', .agg #[.slice fa f.length fc, .slice ta t.length tc]] w7 (AnsP w7 (.bool true))) :=
            told_any _ _ _ _ G' A' f t w7 (.inr ⟨_, _, _, rfl, HF7.out.mp⟩) HF7.out.fit HF7.out.list HF7.out.same (HF.out.old HF7.out.below) (HT.out.old HF7.out.below) (by have := pages_few HF7.out; omega) (fun m hm => may_bytes (HF7.out.may m hm))
          clear hs7
          go_wp2_with (first | (go_at_call 25; refine CT.out.mono ?_))
          rintro e w8 ⟨rfl, hb8⟩
          have HF8 : Hid (Fill wz.heap.size wz mb' (k + 1) la' lc' A' v' G' w8) := HF7.out.old hb8
          clear hb8 t0 t1
          go_wp2_with fail
          go_roundw
          case rel => exact ⟨k + 1, mb', la', lc', A', v', G', by omega, by omega, rfl, rfl, by go_num, HF8⟩
          case measure => simp [intOf]; omega
      · obtain rfl : k = 120 := by omega
        have CT : Hid (Calls Try.prog 25 #[.pointer (some ⟨mb, 0, none⟩), .slice la A.length lc, .agg #[.slice none 0 0, .slice none 0 0]] wr (AnsP wr (.bool true))) :=
          told_any _ _ _ _ G A [] [] wr (.inr ⟨_, _, _, rfl, HFI.out.mp⟩) HFI.out.fit HFI.out.list HFI.out.same (Rd.nil _) (Rd.nil _) (by have := pages_few HFI.out; omega) (fun m hm => may_bytes (HFI.out.may m hm))
        have hlt' : (120 : Int) < (M.length : Int) := by omega
        go_wp2_with (first | (go_at_call 25; refine CT.out.mono ?_))
        rintro e w8 ⟨rfl, hb8⟩
        go_wp2_with fail
        go_ret
        exact ⟨rfl, HBZ.out.trans ((HFI.out.old hb8).below.mono HBZ.out.size)⟩
    · obtain rfl : k = M.length := by omega
      have CT : Hid (Calls Try.prog 25 #[.pointer (some ⟨mb, 0, none⟩), .slice la A.length lc, .agg #[.slice none 0 0, .slice none 0 0]] wr (AnsP wr (.bool true))) :=
        told_any _ _ _ _ G A [] [] wr (.inr ⟨_, _, _, rfl, HFI.out.mp⟩) HFI.out.fit HFI.out.list HFI.out.same (Rd.nil _) (Rd.nil _) (by have := pages_few HFI.out; omega) (fun m hm => may_bytes (HFI.out.may m hm))
      have HM9 := HX.out.form
      go_wp2_with (first | (go_at_call 25; refine CT.out.mono ?_))
      rintro e w8 ⟨rfl, hb8⟩
      go_wp2_with fail
      go_ret
      exact ⟨rfl, HBZ.out.trans ((HFI.out.old hb8).below.mono HBZ.out.size)⟩

set_option maxRecDepth 100000 in
theorem walk {H : Type} {enc : TypeId × Value → H} {base : Nat} {d0 d1 : DataW H} {p0 p1 : List MemPlace} (v0 v1 : Value) (w : World)
    (k0 : Value.okWide Try.prog w .any base 22 v0) (t0 : DataW.Trod enc Try.prog w 0 (fun _ => true) true 22 v0 d0 p0)
    (k1 : Value.okWide Try.prog w .any base 25 v1) (t1 : DataW.Trod enc Try.prog w 0 (fun _ => true) true 25 v1 d1 p1)
    (hb : ∀ n ∈ d0.weights Try.prog 22, n ≤ reachBytes) :
    Calls Try.prog 3 #[v0, v1] w fun e w' => e = .returned (.bool true) ∧ Below w.heap.size w w' := by
  obtain ⟨a, len, cap, rfl⟩ := WideShapes.okWide_slice Try.underlying22 k0
  obtain ⟨M, rfl, hM, hbM⟩ := ops_open t0
  obtain ⟨fv, tv, f, t, rfl, hf, ht⟩ := span_open k1 t1
  exact walk0 _ fv tv M f t w hM hf ht (fun o ho => by have h := hbM reachBytes hb o ho; unfold reachBytes at h; omega)
end pagesPlay
end Go.Proofs.Ytcgnghkjkdkmmaa
