/-
  RAFT: a group of one: Known of the last ones, Compact at the last one.
-/
import Derived.Test.YtdaecndbdinddaaRo
import Derived.Test.YtdaecndbdinddaaRy
set_option linter.unusedVariables false
set_option linter.unusedSimpArgs false
set_option maxRecDepth 100000
namespace Go.Proofs.Ytdaecndbdinddaa
open Go.RowKit Go.Deep

section
variable {B : Nat} {w w' : World} {b : Nat} {id n : Int} {l : Lo} {role ld : Int} {cm : Nat} {tk : Int} {v : Bool}
set_option maxHeartbeats 4000000 in
theorem known2_any (h : NdAt w b id n l role ld cm tk v) (hn : n ≠ 0) (hl : LoAt w l) (hmax : l.es.length ≤ 1000000000000) (hcm : cm = l.si + l.es.length) (hs : l.si + l.es.length + 1 < 18446744073709551616) (d : Nat) (hd : 1 ≤ d ∧ d ≤ l.es.length) (r : Nat) (hr : r = l.es.length - d) :
    Calls Try.prog 18 #[.pointer (some ⟨b, 0, none⟩), .int .u64 ((l.si + 1 + d : Nat) : Int)] w (fun e w' => ∃ (F : List En) (yo : Option Addr) (yc : Nat), e = .returned (.slice yo r yc) ∧ F.map En.pe = (l.es.drop d).map En.pe ∧ Ents w' (.slice yo r yc) F ∧ Below w.heap.size w w') := by
  have HQ : Hid ((l.es.drop d).length = r) := hid (by rw [List.length_drop]; omega)
  obtain ⟨m, hme⟩ : ∃ m, m = l.es.length := ⟨_, rfl⟩
  have hes := hl.es.1
  have hhd := hes.head (P := Try.prog) 30 58 Try.underlying30 (by kernel_rfl) m (by rw [List.length_map]; omega)
  obtain ⟨ao, ac, hsl, hrd, -⟩ := hhd
  have htk : (l.es.map rowE).take m = l.es.map rowE := List.take_of_length_le (by rw [List.length_map]; omega)
  rw [htk] at hrd
  have hcap : m ≤ ac := by
    obtain ⟨_, _, e1, q1, q2⟩ := hrd.form
    simp only [Value.slice.injEq, List.length_map] at e1 q1
    omega
  obtain ⟨bo, bc, hct, hrc, -⟩ := hrd.cut (P := Try.prog) (by decide) 30 58 Try.underlying30 (by kernel_rfl) d (by rw [List.length_map]; omega)
  rw [List.length_map, ← hr] at hct hrc
  have HE : Hid (Ents w (.slice bo r bc) (l.es.drop d)) := hid ⟨by rw [List.map_drop]; exact hrc, fun e he => hl.es.2 e (List.mem_of_mem_drop he)⟩
  have CN := hid (rnone_any h hn)
  have CF : Hid (∀ W, Below w.heap.size w W → Calls Try.prog 46 #[.pointer (some ⟨b, 0, none⟩)] W (fun e w' => e = .returned (.int .u64 ((l.si + 1 : Nat) : Int)) ∧ w' = W)) := hid fun W hW => rfirst_any (h.old hW) (by omega)
  have CE : Hid (∀ W, Below w.heap.size w W → Calls Try.prog 47 #[.slice bo r bc] W (EpA (l.es.drop d) r W)) := hid fun W hW => cents_any _ bo r bc W HQ.out.symm (HE.out.old hW) (by omega)
  obtain ⟨-, -, -, -, c4, -, -, c7, -, -, c10, -⟩ := h.cells
  rw [← hme] at c7 hd
  have hsl2 : ∀ W, (Instr.slice 30 (.slice l.eo m l.ec) none (some (.int .u64 (m : Int))) none).run Try.prog W = .ok (.slice ao m ac) W := fun W => by have := hsl .u64 W; rw [← hme] at this; exact this
  have hsl3 : ∀ W, (Instr.slice 30 (.slice ao m ac) (some (.int .u64 (d : Int))) none none).run Try.prog W = .ok (.slice bo r bc) W := fun W => by rw [slice_kind Try.underlying30 .u64 W ao m ac d (by omega) hcap]; exact hct W
  have hlen := fun W => run_len_slice (P := Try.prog) W 30 3 ao m ac Try.underlying30
  have hw1 : IntKind.u64.wrap ((cm : Int) - (l.si : Int)) = (m : Int) := by rw [wrap_u64]; omega
  have hg : (((l.si + 1 + d : Nat) : Int)) > (((l.si + 1 : Nat)) : Int) := by omega
  have hg2 : (l.si : Int) + 1 + (d : Int) > (l.si : Int) + 1 := by omega
  have hw2 : IntKind.u64.wrap (((l.si + 1 + d : Nat) : Int) - ((l.si + 1 : Nat) : Int)) = (d : Int) := by rw [wrap_u64]; omega
  have hw3 : IntKind.u64.wrap ((l.si : Int) + 1 + (d : Int) - ((l.si : Int) + 1)) = (d : Int) := by rw [wrap_u64]; omega
  have hw4 : IntKind.u64.wrap (m : Int) = (m : Int) := by rw [wrap_u64]; omega
  have hmn : min (d : Int) (m : Int) = (d : Int) := by omega
  have hmn2 : ¬ ((m : Int) < (d : Int)) := by omega
  clear h hl hme hes hsl hrd hcm hmax hct hrc hr htk
  go_enter Try.func18, Try.ntmps18
  go_upto_region 3 with (first | (go_at_call 36; refine CN.out.mono ?_; rintro en w2 ⟨rfl, hw2'⟩; subst hw2'))
  go_quiet (fail)
  have hbd : Below w2.heap.size w2 (w2.drewN nq) := ⟨rfl, rfl, rfl, Nat.le_refl _, fun _ _ => rfl⟩
  have CFd := hid (CF.out _ hbd)
  have CEd := hid (CE.out _ hbd)
  have HBD := hid hbd
  clear hbd c4 c7 c10
  generalize w2.drewN nq = w3 at *
  go_wp2_with (first
    | (go_at_call 46; refine CFd.out.mono ?_; rintro en w4 ⟨rfl, hw4'⟩; subst hw4')
    | (go_at_call 47; refine CEd.out.mono ?_; rintro en wE ⟨F, yo, yc, rfl, hcl, hbE⟩; have HCL := hid hcl; have HBE := hid (HBD.out.trans (hbE.mono HBD.out.size)); clear hcl hbE))
  go_ret
  have hFl : F.length = r := HCL.out.len.trans HQ.out
  have hown := HCL.out.own
  refine ⟨F, yo, yc, rfl, HCL.out.pe, ?_, HBE.out⟩
  have := ents_own hown HCL.out.each
  rw [hFl] at this
  exact this

theorem behind_last (h : NdAt w b id n l role ld cm tk v) (hl : LoAt w l) (hm : l.si + l.es.length < 18446744073709551616) : Calls Try.prog 54 #[.pointer (some ⟨b, 0, none⟩), .int .u64 ((l.si + l.es.length : Nat) : Int)] w (fun e w' => (∃ bo bc, e = .returned (.slice bo 0 bc) ∧ Rws 3 w' (.slice bo 0 bc) []) ∧ Below w.heap.size w w') := by
  obtain ⟨m, hme⟩ : ∃ m, m = l.es.length := ⟨_, rfl⟩
  have hes := hl.es.1
  have hcap : m ≤ l.ec := by
    obtain ⟨_, _, e1, q1, q2⟩ := hes.form
    simp only [Value.slice.injEq, List.length_map] at e1 q1
    omega
  obtain ⟨bo, bc, hct, hrc, -⟩ := hes.cut (P := Try.prog) (by decide) 30 58 Try.underlying30 (by kernel_rfl) m (by rw [List.length_map]; omega)
  rw [List.length_map, hme, Nat.sub_self, ← hme] at hct hrc
  have hdr : (l.es.map rowE).drop m = [] := List.drop_eq_nil_of_le (by rw [List.length_map]; omega)
  rw [hdr] at hrc
  have HRC := hid hrc
  obtain ⟨-, -, -, -, c4, -, -, c7, -⟩ := h.cells
  rw [← hme] at c7 hm ⊢
  have hsl3 : ∀ W, (Instr.slice 30 (.slice l.eo m l.ec) (some (.int .u64 (m : Int))) none none).run Try.prog W = .ok (.slice bo 0 bc) W := fun W => by rw [slice_kind Try.underlying30 .u64 W l.eo m l.ec m (Nat.le_refl _) hcap]; exact hct W
  have hw1 : IntKind.u64.wrap (((l.si + m : Nat) : Int) - (l.si : Int)) = (m : Int) := by rw [wrap_u64]; omega
  have hw2 : IntKind.u64.wrap ((l.si : Int) + (m : Int) - (l.si : Int)) = (m : Int) := by rw [wrap_u64]; omega
  clear h hl hme hes hct hrc hdr
  go_enter Try.func54, Try.ntmps54
  go_wp2_with fail
  go_quiet (fail)
  go_wp2_with fail
  go_ret
  exact ⟨⟨bo, bc, rfl, HRC.out.old ⟨rfl, rfl, rfl, Nat.le_refl _, fun _ _ => rfl⟩⟩, ⟨rfl, rfl, rfl, Nat.le_refl _, fun _ _ => rfl⟩⟩

/-- What a snapshot in the place of the whole log comes to. -/
def Rep1 (B b : Nat) (l : Lo) (i t : Nat) (role ld : Int) (cm : Nat) (tk : Int) (v : Bool) (d : List UInt8) (w w' : World) : Prop :=
  ∃ (sr : Rc) (yo : Option Addr) (yc : Nat), sr.b = d ∧ One B w' b ⟨l.ht, l.hv, i, t, sr, yo, yc, []⟩ role ld cm tk v ∧ Keep (fun j => j = b) w w'

set_option maxHeartbeats 8000000 in
theorem replace1_any (h : One B w b l role ld cm tk v) (i t : Nat) (hi : i < 18446744073709551616) (ht : t < 18446744073709551616) (a : Option Addr) (n c : Nat) (d : List UInt8) (hn : n = d.length) (hd : Rd w (.slice a n c) d) (hdl : d.length ≤ 140737488355328) (bo : Option Addr) (bc : Nat) (hb0 : Rws 3 w (.slice bo 0 bc) []) (hB : B ≤ w.heap.size) :
    Calls Try.prog 53 #[.pointer (some ⟨b, 0, none⟩), .agg #[.int .u64 (i : Int), .int .u64 (t : Int), .slice a n c], .slice bo 0 bc] w (fun e w' => e = .returned (.tuple #[]) ∧ Rep1 B b l i t role ld cm tk v d w w') := by
  have hb : Below w.heap.size w (w.alloc (.cells #[.int .u64 (i : Int), .int .u64 (t : Int), .slice a n c] 67)) := (Below.refl _ _).alloc (Nat.le_refl _) _
  have h0 := heap_alloc_new w (.cells #[.int .u64 (i : Int), .int .u64 (t : Int), .slice a n c] 67)
  have HO := hid h
  have HD := hid hd
  have HR0 := hid hb0
  have HN := hid hn
  have HBL := hid h.nd.lt
  clear h hd hb0 hn
  go_enter Try.func53, Try.ntmps53
  go_upto_region 1 with fail
  generalize w.alloc (.cells #[.int .u64 (i : Int), .int .u64 (t : Int), .slice a n c] 67) = w1 at *
  have HB := hid hb
  obtain ⟨z0, z1, z2⟩ := three_cells h0
  have HO1 := hid (HO.out.old hb)
  have CS := hid (csnap_any i t a n c d w1 HN.out (HD.out.old hb) hdl)
  clear hb h0
  go_upto_region 2 with (first | (go_at_call 67; refine CS.out.mono ?_; rintro en wS ⟨sr, rfl, hsb, hrS, hbS, hnS⟩; have HSB := hid hsb; have HRS := hid hrS; have HNS := hid hnS; have HBS := hid (HB.out.trans (hbS.mono HB.out.size)); have HW1 := hid hbS.size; have hO2 := HO1.out.old hbS; have HO2 := hid hO2; obtain ⟨-, -, -, -, c4, c5, c6, -⟩ := hO2.nd.cells; have f4 := hO2.nd.soft 4; have f5 := hO2.nd.soft 5; have f6 := hO2.nd.soft 6; clear hsb hrS hbS hnS hO2))
  have n4 : NdAt (wS.setCell ⟨b, 4, none⟩ (.int .u64 (i : Int))) b 0 1 ⟨l.ht, l.hv, i, l.st, l.sd, l.eo, l.ec, l.es⟩ role ld cm tk v := set_at (k := 4) (.int .u64 (i : Int)) HO2.out.nd
  have n5 : NdAt ((wS.setCell ⟨b, 4, none⟩ (.int .u64 (i : Int))).setCell ⟨b, 5, none⟩ (.int .u64 (t : Int))) b 0 1 ⟨l.ht, l.hv, i, t, l.sd, l.eo, l.ec, l.es⟩ role ld cm tk v := set_at (k := 5) (.int .u64 (t : Int)) n4
  have n6 : NdAt (((wS.setCell ⟨b, 4, none⟩ (.int .u64 (i : Int))).setCell ⟨b, 5, none⟩ (.int .u64 (t : Int))).setCell ⟨b, 6, none⟩ (.slice sr.a sr.b.length sr.c)) b 0 1 ⟨l.ht, l.hv, i, t, sr, l.eo, l.ec, l.es⟩ role ld cm tk v := set_at (k := 6) (.slice sr.a sr.b.length sr.c) n5
  have k4 : Keep (fun j => j = b) wS (wS.setCell ⟨b, 4, none⟩ (.int .u64 (i : Int))) := Keep.set _ _ _ rfl
  have k5 : Keep (fun j => j = b) wS ((wS.setCell ⟨b, 4, none⟩ (.int .u64 (i : Int))).setCell ⟨b, 5, none⟩ (.int .u64 (t : Int))) := k4.trans (Keep.set _ _ _ rfl)
  have k6 : Keep (fun j => j = b) wS (((wS.setCell ⟨b, 4, none⟩ (.int .u64 (i : Int))).setCell ⟨b, 5, none⟩ (.int .u64 (t : Int))).setCell ⟨b, 6, none⟩ (.slice sr.a sr.b.length sr.c)) := k5.trans (Keep.set _ _ _ rfl)
  generalize ((wS.setCell ⟨b, 4, none⟩ (.int .u64 (i : Int))).setCell ⟨b, 5, none⟩ (.int .u64 (t : Int))).setCell ⟨b, 6, none⟩ (.slice sr.a sr.b.length sr.c) = w6 at *
  have HN6 := hid n6
  have HK6 := hid k6
  have HRS6 : Hid (Rd w6 (.slice sr.a sr.b.length sr.c) sr.b) := hid (HRS.out.keep k6 (fun hne j hj e => by
    obtain ⟨a9, ha9, hak⟩ := blk_of hj
    have h1 := HNS.out a9 ha9
    have h2 := HB.out.size
    have h3 := HBL.out
    omega))
  have HR6 : Hid (Rws 3 w6 (.slice bo 0 bc) []) := hid ((HR0.out.old HBS.out).keep k6 (fun hne _ _ _ => hne rfl))
  have CC := hid (copied_any (.slice bo 0 bc) [] w6 HR6.out (by simp))
  clear n4 n5 n6 k4 k5 k6 c4 c5 c6 f4 f5 f6 z0 z1 z2
  go_wp2_with (first | (go_at_call 64; refine CC.out.mono ?_; rintro en wC ⟨yC, rfl, hoC, hbC⟩; have HOC := hid hoC; obtain ⟨yo, yc, rfl⟩ := own_form hoC; have HBC := hid hbC; have n7 := HN6.out.old hbC; have HN7 := hid n7; obtain ⟨-, -, -, -, -, -, -, c7, -⟩ := n7.cells; have f7 := n7.soft 7; clear hoC hbC n7))
  go_end0
  have hn8 : NdAt (wC.setCell ⟨b, 7, none⟩ (.slice yo 0 yc)) b 0 1 ⟨l.ht, l.hv, i, t, sr, yo, yc, []⟩ role ld cm tk v := set_at (k := 7) (.slice yo 0 yc) HN7.out
  have hk8 : Keep (fun j => j = b) wC (wC.setCell ⟨b, 7, none⟩ (.slice yo 0 yc)) := Keep.set _ _ _ rfl
  have hw16 : w1.heap.size ≤ w6.heap.size := Nat.le_trans HW1.out HK6.out.size
  have hww : w.heap.size ≤ w1.heap.size := HB.out.size
  have hbl := HBL.out
  have hrow : ∀ j, (Value.slice yo 0 yc).ownBlock = some j → w6.heap.size ≤ j := fun j hj => (HOC.out.lt j hj).1
  have hown := own_keep HOC.out hk8 (fun j hj e => by have := hrow j hj; omega)
  have hsr : sr.b ≠ [] → ∀ x, sr.a = some x → w1.heap.size ≤ x.block ∧ x.block < w6.heap.size := fun hne x hx => ⟨HNS.out x hx, rd_block HRS6.out hne x hx⟩
  have hrd8 : Rd (wC.setCell ⟨b, 7, none⟩ (.slice yo 0 yc)) (.slice sr.a sr.b.length sr.c) sr.b := (HRS6.out.old HBC.out).keep hk8 (fun hne j hj e => by
    obtain ⟨a9, ha9, hak⟩ := blk_of hj
    have := (hsr hne a9 ha9).1
    omega)
  refine ⟨rfl, sr, yo, yc, HSB.out, ⟨hn8, ⟨hrd8, ents_own (B := w6.heap.size) (E := []) hown (fun _ h => by cases h), HO.out.lo.ht, hi, ht, HO.out.lo.hv, by show sr.b.length ≤ _; rw [HSB.out]; exact hdl, Nat.zero_le _⟩, ⟨ownsRow_base hown (by omega), fun _ h => (by cases h), fun hne x hx e => by have := (hsr hne x hx).2; have := hrow _ e; omega⟩, fun j hj e => by have := hrow j hj; omega, ⟨fun hne x hx e => by have := (hsr hne x hx).1; omega, fun _ h => (by cases h), fun h => absurd rfl h⟩, HO.out.bb⟩, ?_⟩
  exact (((Keep.of_below HBS.out).trans HK6.out).trans (Keep.of_below HBC.out)).trans hk8

set_option maxHeartbeats 4000000 in
theorem compact1_any (h : One B w b l role ld cm tk v) (hcm : cm = l.si + l.es.length) (hne : 1 ≤ l.es.length) (hm : l.si + l.es.length ≤ 4611686018427387904) (a : Option Addr) (n c : Nat) (d : List UInt8) (hn : n = d.length) (hd : Rd w (.slice a n c) d) (hdl : d.length ≤ 32668) (hB : B ≤ w.heap.size) :
    Calls Try.prog 24 #[.pointer (some ⟨b, 0, none⟩), .int .u64 (cm : Int), .slice a n c] w (fun e w' => e = .returned (.int .i64 0) ∧ Rep1 B b l cm (termOf l cm) role ld cm tk v d w w') := by
  have HO := hid h
  have HD := hid hd
  have HN := hid hn
  have CN := hid (rnone_any h.nd (by omega))
  obtain ⟨-, -, -, -, c4, -, -, -, -, -, c10, -⟩ := h.nd.cells
  have hlb := fun W a n c => run_len_slice (P := Try.prog) W 28 3 a n c Try.underlying28
  have hg1 : ¬ ((cm : Int) ≤ (l.si : Int)) := by omega
  have hg2 : ¬ ((cm : Int) > 4611686018427387904) := by omega
  have hg3 : ¬ ((n : Int) > 32668) := by omega
  have hg4 : decide (32668 < (n : Int)) = false := by simp; omega
  have hg5 : decide (4611686018427387904 < (cm : Int)) = false := by simp; omega
  have htm : termOf l cm < 18446744073709551616 := by
    unfold termOf
    split
    · exact h.lo.st
    · split
      · rename_i e he
        exact (h.lo.es.2 e (List.mem_of_getElem? he)).2.1
      · exact h.lo.st
  have CT : Hid (Calls Try.prog 52 #[.pointer (some ⟨b, 0, none⟩), .int .u64 (cm : Int)] w (fun e w' => e = .returned (.tuple #[.int .u64 (termOf l cm : Int), .bool true]) ∧ Below w.heap.size w w')) := hid (termAt_any h.nd h.lo cm (by omega) (by omega))
  have CBh : Hid (∀ W, Below w.heap.size w W → Calls Try.prog 54 #[.pointer (some ⟨b, 0, none⟩), .int .u64 (cm : Int)] W (fun e w' => (∃ bo bc, e = .returned (.slice bo 0 bc) ∧ Rws 3 w' (.slice bo 0 bc) []) ∧ Below W.heap.size W w')) := hid fun W hW => by
    have := behind_last (h.nd.old hW) (h.lo.old hW) (by omega)
    rw [← hcm] at this
    exact this
  have CRp : Hid (∀ W bo bc, Below w.heap.size w W → Rws 3 W (.slice bo 0 bc) [] → Calls Try.prog 53 #[.pointer (some ⟨b, 0, none⟩), .agg #[.int .u64 (cm : Int), .int .u64 (termOf l cm : Int), .slice a n c], .slice bo 0 bc] W (fun e w' => e = .returned (.tuple #[]) ∧ Rep1 B b l cm (termOf l cm) role ld cm tk v d W w')) := hid fun W bo bc hW hr => replace1_any (h.old hW) cm (termOf l cm) (by omega) htm a n c d hn (hd.old hW) (by omega) bo bc hr (Nat.le_trans hB hW.size)
  generalize termOf l cm = tm at *
  clear h hd hn hcm htm
  go_enter Try.func24, Try.ntmps24
  go_wp2_with (first
    | (go_at_call 36; refine CN.out.mono ?_; rintro en w2 ⟨rfl, hw2⟩; subst hw2)
    | (go_at_call 52; refine CT.out.mono ?_; rintro en w3 ⟨rfl, hb3⟩; have HB3 := hid hb3; have CB3 := hid (CBh.out _ hb3); clear hb3)
    | (go_at_call 54; refine CB3.out.mono ?_; rintro en w4 ⟨⟨bo, bc, rfl, hr4⟩, hb4⟩; have HB4 := hid (HB3.out.trans (hb4.mono HB3.out.size)); have CR4 := hid (CRp.out w4 bo bc HB4.out hr4); clear hb4 hr4)
    | (go_at_call 53; refine CR4.out.mono ?_; rintro en w5 ⟨rfl, hR5⟩; have HR5 := hid hR5; clear hR5))
  go_ret
  obtain ⟨sr, yo, yc, q1, q2, q3⟩ := HR5.out
  exact ⟨rfl, sr, yo, yc, q1, q2, (Keep.of_below HB4.out).trans q3⟩
end
end Go.Proofs.Ytdaecndbdinddaa
