/-
  RAFT: Log, Take, Known.
-/
import Derived.Test.YtdaecndbdinddaaRd
import Derived.Test.YtdaecndbdinddaaRa
import Derived.Test.YtdaecndbdinddaaRx
set_option linter.unusedVariables false
set_option linter.unusedSimpArgs false
set_option maxRecDepth 100000
namespace Go.Proofs.Ytdaecndbdinddaa
open Go.RowKit Go.Deep

section
variable {w w' : World} {b : Nat} {id n : Int} {l : Lo} {role ld : Int} {cm : Nat} {tk : Int} {v : Bool}
set_option maxHeartbeats 8000000 in
theorem rlog_any (h : NdAt w b id n l role ld cm tk v) (hn : n ≠ 0) (hl : LoAt w l) (hmax : l.es.length ≤ 1000000000000) : Calls Try.prog 25 #[.pointer (some ⟨b, 0, none⟩)] w (CpA l w) := by
  have hb : Below w.heap.size w (w.alloc (.cells #[.int .u64 0, .int .i64 0, .int .u64 0, .int .u64 0, .slice none 0 0, .slice none 0 0] 69)) := (Below.refl _ _).alloc (Nat.le_refl _) _
  have h0 := heap_alloc_new w (.cells #[.int .u64 0, .int .i64 0, .int .u64 0, .int .u64 0, .slice none 0 0, .slice none 0 0] 69)
  have HL := hid hl
  have HN := hid h
  clear h hl
  go_enter Try.func25, Try.ntmps25
  go_upto_region 1 with fail
  have hs1 : (w.alloc (.cells #[.int .u64 0, .int .i64 0, .int .u64 0, .int .u64 0, .slice none 0 0, .slice none 0 0] 69)).heap.size = w.heap.size + 1 := by simp
  generalize w.alloc (.cells #[.int .u64 0, .int .i64 0, .int .u64 0, .int .u64 0, .slice none 0 0, .slice none 0 0] 69) = w1 at *
  have HB := hid hb
  have H0 := hid h0
  have HS1 := hid hs1
  have CN := hid (rnone_any (HN.out.old hb) hn)
  have CC0 := clog_any l w1 (HL.out.old hb) hmax
  simp only [Lo.v] at CC0
  have CC := hid CC0
  obtain ⟨-, -, c2, c3, c4, c5, c6, c7, -⟩ := (HN.out.old hb).cells
  clear hb h0 hs1 CC0
  go_wp2_with (first
    | (go_at_call 36; refine CN.out.mono ?_; rintro en w2 ⟨rfl, hw2⟩; subst hw2)
    | (go_at_call 49; refine CC.out.mono ?_; rintro en wC ⟨is, rfl, hpl, hlo, hbC, hownC, hoC⟩; have HPL := hid hpl; have HLO := hid hlo; have HOC := hid hoC; have HBC := hid hbC; have hT := (hbC.block _ (lt_of_block H0.out)).trans H0.out; have HT := hid hT; obtain ⟨r0, r1, r2, r3, r4, r5⟩ := six_cells hT; have f0 : wC.frozen? ⟨w.heap.size, 0, none⟩ = false := (by simp [World.frozen?, hT]); have f1 : wC.frozen? ⟨w.heap.size, 1, none⟩ = false := (by simp [World.frozen?, hT]); have f2 : wC.frozen? ⟨w.heap.size, 2, none⟩ = false := (by simp [World.frozen?, hT]); have f3 : wC.frozen? ⟨w.heap.size, 3, none⟩ = false := (by simp [World.frozen?, hT]); have f4 : wC.frozen? ⟨w.heap.size, 4, none⟩ = false := (by simp [World.frozen?, hT]); have f5 : wC.frozen? ⟨w.heap.size, 5, none⟩ = false := (by simp [World.frozen?, hT]); clear hT hpl hlo hbC hownC hoC; simp only [Lo.v]))
  have hset := six_set HT.out (.int .u64 (is.ht : Int)) (.int .i64 is.hv) (.int .u64 (is.si : Int)) (.int .u64 (is.st : Int)) (.slice is.sd.a is.sd.b.length is.sd.c) (.slice is.eo is.es.length is.ec)
  have hks := keep_six wC w.heap.size (.int .u64 (is.ht : Int)) (.int .i64 is.hv) (.int .u64 (is.si : Int)) (.int .u64 (is.st : Int)) (.slice is.sd.a is.sd.b.length is.sd.c) (.slice is.eo is.es.length is.ec)
  have hs1 := HS1.out
  have hbb := HB.out
  have hb9 := hbb.trans (HBC.out.mono hbb.size)
  refine bodyPost_ret (results_cell_row rfl _ _ w.heap.size 69 _ (0, 0) _ rfl hset Try.underlying69 rfl (by kernel_rfl)) rfl ?_
  exact ⟨is, rfl, HPL.out, HLO.out.kept hks (HOC.out _ (fun k e => by omega)), hb9.trans (hks.below hb9.size (fun j e => by omega)), fun X hX => HOC.out X (fun k hk => by have := hX k hk; omega)⟩

theorem take_any (h : NdAt w b id n l role ld cm tk v) (hn : n ≠ 0) : Calls Try.prog 23 #[.pointer (some ⟨b, 0, none⟩)] w (fun e w' => e = .returned (.slice none 0 0) ∧ NdAt w' b id n l role ld cm tk v ∧ Keep (fun j => j = b) w w') := by
  have CN := hid (rnone_any h hn)
  obtain ⟨-, -, -, -, -, -, -, -, -, -, -, -, c32⟩ := h.cells
  have f32 := h.soft 32
  have h1 : NdAt (w.setCell ⟨b, 32, none⟩ (.slice none 0 0)) b id n l role ld cm tk v := set_at (k := 32) (.slice none 0 0) h
  have H1 := hid h1
  clear h h1
  go_enter Try.func23, Try.ntmps23
  go_wp2_with (first | (go_at_call 36; refine CN.out.mono ?_; rintro en w2 ⟨rfl, hw2⟩; subst hw2))
  go_ret
  exact ⟨rfl, H1.out, Keep.set _ _ _ rfl⟩

set_option maxHeartbeats 4000000 in
theorem known_any (h : NdAt w b id n l role ld cm tk v) (hn : n ≠ 0) (hl : LoAt w l) (hmax : l.es.length ≤ 1000000000000) (q : Nat) (hq : q ≤ l.es.length) (hcm : cm = l.si + q) (hs : l.si + 1 < 18446744073709551616) (fr : Nat) (hfr : fr ≤ l.si + 1) :
    Calls Try.prog 18 #[.pointer (some ⟨b, 0, none⟩), .int .u64 (fr : Int)] w (fun e w' => ∃ (F : List En) (yo : Option Addr) (yc : Nat), e = .returned (.slice yo q yc) ∧ F.map En.pe = (l.es.take q).map En.pe ∧ Ents w' (.slice yo q yc) F ∧ Below w.heap.size w w') := by
  have HQ : Hid ((l.es.take q).length = q) := hid (by rw [List.length_take]; omega)
  obtain ⟨m, hme⟩ : ∃ m, m = l.es.length := ⟨_, rfl⟩
  have hes := hl.es.1
  have hhd := hes.head (P := Try.prog) 30 58 Try.underlying30 (by kernel_rfl) q (by rw [List.length_map]; exact hq)
  obtain ⟨ao, ac, hsl, hrd, -⟩ := hhd
  have HE : Hid (Ents w (.slice ao q ac) (l.es.take q)) := hid ⟨by rw [List.map_take]; exact hrd, fun e he => hl.es.2 e (List.mem_of_mem_take he)⟩
  have CN := hid (rnone_any h hn)
  have CF : Hid (∀ W, Below w.heap.size w W → Calls Try.prog 46 #[.pointer (some ⟨b, 0, none⟩)] W (fun e w' => e = .returned (.int .u64 ((l.si + 1 : Nat) : Int)) ∧ w' = W)) := hid fun W hW => rfirst_any (h.old hW) hs
  have CE : Hid (∀ W, Below w.heap.size w W → Calls Try.prog 47 #[.slice ao q ac] W (EpA (l.es.take q) q W)) := hid fun W hW => cents_any _ ao q ac W HQ.out.symm (HE.out.old hW) (by omega)
  obtain ⟨-, -, -, -, c4, -, -, c7, -, -, c10, -⟩ := h.cells
  rw [← hme] at c7
  have hsl2 : ∀ W, (Instr.slice 30 (.slice l.eo m l.ec) none (some (.int .u64 (q : Int))) none).run Try.prog W = .ok (.slice ao q ac) W := fun W => by rw [hme]; exact hsl .u64 W
  have hw1 : IntKind.u64.wrap ((cm : Int) - (l.si : Int)) = (q : Int) := by rw [wrap_u64]; omega
  have hng : ¬ ((fr : Int) > (l.si : Int) + 1) := by omega
  have hng2 : ¬ ((fr : Int) > ((l.si + 1 : Nat) : Int)) := by omega
  clear h hl hme hes hsl hrd hcm hq hmax
  go_enter Try.func18, Try.ntmps18
  go_upto_region 3 with (first | (go_at_call 36; refine CN.out.mono ?_; rintro en w2 ⟨rfl, hw2⟩; subst hw2))
  go_quiet (fail)
  have hbd : Below w2.heap.size w2 (w2.drewN nq) := ⟨rfl, rfl, rfl, Nat.le_refl _, fun _ _ => rfl⟩
  have CFd := hid (CF.out _ hbd)
  have CEd := hid (CE.out _ hbd)
  have HBD := hid hbd
  clear hbd c4 c7 c10
  generalize w2.drewN nq = w3 at *
  go_wp2_with (first
    | (go_at_call 46; refine CFd.out.mono ?_; rintro en w4 ⟨rfl, hw4⟩; subst hw4)
    | (go_at_call 47; refine CEd.out.mono ?_; rintro en wE ⟨F, yo, yc, rfl, hcl, hbE⟩; have HCL := hid hcl; have HBE := hid (HBD.out.trans (hbE.mono HBD.out.size)); clear hcl hbE))
  go_ret
  have hFl : F.length = q := HCL.out.len.trans HQ.out
  have hown := HCL.out.own
  refine ⟨F, yo, yc, rfl, HCL.out.pe, ?_, HBE.out⟩
  have := ents_own hown HCL.out.each
  rw [hFl] at this
  exact this
end
end Go.Proofs.Ytdaecndbdinddaa
