/-
  RAFT: copies of entries, of a snapshot, of a log.
-/
import Derived.Test.YtdaecndbdinddaaRw
import Derived.Deep.CutRange
set_option linter.unusedVariables false
set_option linter.unusedSimpArgs false
set_option maxRecDepth 100000
namespace Go.Proofs.Ytdaecndbdinddaa
open Go.RowKit Go.Deep

theorem copied_any (x : Value) (L : List (List Value)) (w : World) (h : Rws 3 w x L) (hn : L.length ≤ 1000000000000) :
    Calls Try.prog 64 #[x] w (fun e w' => ∃ y, e = .returned y ∧ w'.ownsRow w.heap.size 58 3 y L.length L.flatten ∧ Below w.heap.size w w') := by
  have HR := hid h
  obtain ⟨ao, c, rfl, -⟩ := h
  have hown : w.ownsRow w.heap.size 58 3 (.slice none 0 0) 0 [] := World.ownsRow_nil _ _ _ _
  have HO := hid hown
  clear hown
  go_enter Try.func64, Try.ntmps64
  go_wp2_with (first
    | (at_builtin; refine wp_rapp rfl _ _ 30 rfl w.heap.size 3 40 58 Try.underlying30 _ info_entry (by simp [Value.cells]) (by decide) _ _ _ rfl HO.out _ L rfl HR.out ?c1 ?c2 ?c3 ?_))
  case c1 => omega
  case c2 => unfold maxLen; omega
  case c3 => simp
  intro v' w1 o1 g1
  have HO1 := hid o1
  have HB1 : Hid (Below w.heap.size w w1) := (Below.refl _ _).grown g1 (Nat.le_refl _) (fun k hk => by simp [Value.ownBlock] at hk)
  clear o1 g1
  go_wp2_with fail
  go_ret
  have := HO1.out
  try simp only [Nat.zero_add, List.nil_append] at this
  exact ⟨_, rfl, this, HB1.out⟩

theorem ClL.start2 {B : Nat} {w w' : World} {E : List En} {x : Value} (hE : Ents w x E) (hw : Below w.heap.size w w') {yo : Option Addr} {c : Nat} (hB : w.heap.size ≤ B) (ho : w'.ownsRow B 58 3 (.slice yo E.length c) E.length (E.map rowE).flatten) : ClL B w' E E yo c 0 :=
  ⟨rfl, rfl, ho, fun e he => ⟨(hE.2 e he).1.old hw, (hE.2 e he).2⟩, fun e he hne a ha e9 => by
    have h1 := rd_block (hE.2 e he).1 hne a ha
    have h2 := (ho.lt _ e9).1
    omega, fun j e _ h => by omega⟩

/-- What a copy of entries is. -/
def EpA (E : List En) (n : Nat) (w : World) (en : Ending) (w' : World) : Prop := ∃ (F : List En) (yo : Option Addr) (yc : Nat), en = .returned (.slice yo n yc) ∧ ClL w.heap.size w' E F yo yc n ∧ Below w.heap.size w w'

set_option maxHeartbeats 16000000 in
theorem cents_any (E : List En) (eo : Option Addr) (n ec : Nat) (w : World) (hn : n = E.length) (hE : Ents w (.slice eo n ec) E) (hmax : n ≤ 1000000000000) : Calls Try.prog 47 #[.slice eo n ec] w (EpA E n w) := by
  have HN := hid hn
  have HE := hid hE
  have CE0 := copied_any (.slice eo n ec) (E.map rowE) w hE.1 (by rw [List.length_map]; omega)
  rw [List.length_map, ← hn] at CE0
  have CE := hid CE0
  clear CE0 hE hn
  go_enter Try.func47, Try.ntmps47
  go_upto_region 2 with (first | (go_at_call 64; refine CE.out.mono ?_; rintro en wC ⟨yC, rfl, hoC, hbC⟩; have HOC := hid hoC; obtain ⟨yo, yc, rfl⟩ := own_form hoC; have HBC := hid hbC; clear hoC hbC))
  have hlen := fun W => run_len_slice (P := Try.prog) W 30 3 yo n yc Try.underlying30
  have HI0 : Hid (ClL w.heap.size wC E E yo yc 0) := hid (ClL.start2 HE.out HBC.out (Nat.le_refl _) (by rw [← HN.out]; exact HOC.out))
  go_wp2_with fail
  go_loopw [8] (fun i wr => ∃ (m : Nat) (F : List En), m ≤ n ∧ i = .int .i64 (m : Int) ∧ Hid (Below w.heap.size w wr) ∧ Hid (ClL w.heap.size wr E F yo yc m)) (fun i _ => n - (intOf i).toNat)
  case atStart => exact ⟨0, E, by omega, rfl, HBC.out, HI0.out⟩
  case round =>
    obtain ⟨m, F, hm, rfl, HBr, HCL⟩ := hrel
    have hFl : F.length = n := HCL.out.len.trans HN.out.symm
    have HFl := hid hFl
    by_cases hlt : m < n
    · have hki : (m : Int) < (n : Int) := by omega
      have hz : IntKind.i64.wrap ((m : Int) + 1) = (m : Int) + 1 := by rw [IntKind.wrap_i64]; omega
      have hA9 := List.getElem?_eq_getElem (l := F) (i := m) (by omega)
      generalize F[m]'_ = e at hA9
      rcases HCL.out.own.2 with ⟨e1, e0⟩ | ⟨gb, cap, cur, e1, e2, e3, e4, e5, e6, e7⟩
      · omega
      simp only [Value.slice.injEq, true_and] at e1
      obtain ⟨rfl, rfl⟩ := e1
      have HG3 := hid e3
      have hgl : gb < wr.heap.size := lt_of_block e3
      have HGB : Hid (w.heap.size ≤ gb ∧ gb < wr.heap.size) := hid ⟨e2, hgl⟩
      clear e2 e3 e5 e6 e7 hgl
      have hEn := ents_own (B := w.heap.size) HCL.out.own HCL.out.each
      obtain ⟨b1, o1, ea1, c10, c11, c12, r1⟩ := hEn.get hA9
      cases ea1
      simp only [Nat.zero_add] at c12
      have HC12 := hid c12
      have hyc : n ≤ yc := by omega
      have HG := hid hA9
      have HEI := hid (HCL.out.each e (List.mem_of_getElem? hA9)).2
      have CBe : Hid (Calls Try.prog 39 #[.slice e.r.a e.r.b.length e.r.c] wr (Gives 5 wr e.r.b)) := hid (clone_any wr _ _ r1 HEI.out.2.2)
      clear c10 c11 r1 hA9 hEn e4
      go_wp2_with (first | (go_at_call 39; refine CBe.out.mono ?_; rintro en wT ⟨vT, rfl, hoT, hbT⟩; have HNT0 := hid hoT; obtain ⟨ta, tc, rfl, hrT⟩ := gives_rd hoT; have HRT := hid hrT; have HTO : Hid (∀ a, ta = some a → wr.heap.size ≤ a.block) := hid (fun a ha => by subst ha; exact (HNT0.out.lt a.block rfl).1); have HBT := hid hbT; have hg9 := (hbT.block _ HGB.out.2).trans HG3.out; have c9 : ∃ u, wT.cell? ⟨gb, m * 3 + 2, none⟩ = some u := ⟨_, (World.cell?_of_block (w := wr) (a := ⟨gb, m * 3 + 2, none⟩) (hbT.block _ HGB.out.2)).trans HC12.out⟩; obtain ⟨u9, c9⟩ := c9; have f9 : wT.frozen? ⟨gb, m * 3 + 2, none⟩ = false := (by simp [World.frozen?, hg9]); clear hg9 hbT hrT hoT HNT0))
      have HKS := hid (Keep.set (X := fun j => j = gb) wT ⟨gb, m * 3 + 2, none⟩ (.slice ta e.r.b.length tc) rfl)
      have hgb := HGB.out
      have hbs := HBT.out.size
      have hbr := HBr.out
      have hb9 := hbr.trans (HBT.out.mono hbr.size)
      have hnx := (HCL.out.old HBT.out).next e HG.out ⟨ta, tc, e.r.b⟩ HRT.out rfl (fun _ a ha => by have := HTO.out a ha; have := hbr.size; omega)
      refine ⟨⟨m + 1, _, by omega, by simp, hb9.trans (HKS.out.below hb9.size (fun j e => by rw [e]; omega)), hnx⟩, by simp only [intOf]; omega⟩
    · obtain rfl : m = n := by omega
      have hki : ¬ (m : Int) < (m : Int) := by omega
      go_wp2_with fail
      go_ret
      exact ⟨F, yo, yc, rfl, HCL.out, HBr.out⟩

/-- What a copy of a snapshot is. -/
def SpA (si st : Nat) (l : List UInt8) (w : World) (en : Ending) (w' : World) : Prop := ∃ sr : Rc, en = .returned (.agg #[.int .u64 (si : Int), .int .u64 (st : Int), .slice sr.a sr.b.length sr.c]) ∧ sr.b = l ∧ Rd w' (.slice sr.a sr.b.length sr.c) sr.b ∧ Below w.heap.size w w' ∧ ∀ a, sr.a = some a → w.heap.size ≤ a.block

set_option maxHeartbeats 4000000 in
theorem csnap_any (si st : Nat) (sa : Option Addr) (sl sc : Nat) (l : List UInt8) (w : World) (hsl : sl = l.length) (hr : Rd w (.slice sa sl sc) l) (hl : l.length ≤ 140737488355328) : Calls Try.prog 67 #[.agg #[.int .u64 (si : Int), .int .u64 (st : Int), .slice sa sl sc]] w (SpA si st l w) := by
  have hb : Below w.heap.size w ((w.alloc (.cells #[.int .u64 (si : Int), .int .u64 (st : Int), .slice sa sl sc] 67)).alloc (.cells #[.int .u64 0, .int .u64 0, .slice none 0 0] 67)) := ((Below.refl _ _).alloc (Nat.le_refl _) _).alloc (by simp) _
  have h0 := (Below.heap_alloc (w.alloc (.cells #[.int .u64 (si : Int), .int .u64 (st : Int), .slice sa sl sc] 67)) (.cells #[.int .u64 0, .int .u64 0, .slice none 0 0] 67) w.heap.size (by simp)).trans (heap_alloc_new w (.cells #[.int .u64 (si : Int), .int .u64 (st : Int), .slice sa sl sc] 67))
  have h1 := heap_alloc2_new w (.cells #[.int .u64 (si : Int), .int .u64 (st : Int), .slice sa sl sc] 67) (.cells #[.int .u64 0, .int .u64 0, .slice none 0 0] 67)
  have hs1 : ((w.alloc (.cells #[.int .u64 (si : Int), .int .u64 (st : Int), .slice sa sl sc] 67)).alloc (.cells #[.int .u64 0, .int .u64 0, .slice none 0 0] 67)).heap.size = w.heap.size + 2 := by simp
  have HR := hid hr
  have HSL := hid hsl
  clear hr hsl
  go_enter Try.func67, Try.ntmps67
  go_upto_region 1 with fail
  generalize (w.alloc (.cells #[.int .u64 (si : Int), .int .u64 (st : Int), .slice sa sl sc] 67)).alloc (.cells #[.int .u64 0, .int .u64 0, .slice none 0 0] 67) = w1 at *
  have HB := hid hb
  have HS1 := hid hs1
  have H0 := hid h0
  have H1 := hid h1
  have CB : Hid (Calls Try.prog 39 #[.slice sa sl sc] w1 (Gives 5 w1 l)) := hid (clone_any w1 _ _ (HR.out.old hb) hl)
  obtain ⟨z0, z1, z2⟩ := three_cells h0
  clear hb hs1 h0 h1 z0 z1
  go_upto_region 2 with (first | (go_at_call 39; refine CB.out.mono ?_; rintro en wA ⟨vA, rfl, hoA, hbA⟩; have HOA := hid hoA; obtain ⟨ra, rc, rfl, hrA⟩ := gives_rd hoA; have HRA := hid hrA; have HBA := hid hbA; have hA0 := (hbA.block _ (lt_of_block H0.out)).trans H0.out; have HA0 := hid hA0; obtain ⟨r0, r1, r2⟩ := three_cells hA0; have f2 : wA.frozen? ⟨w.heap.size, 2, none⟩ = false := (by simp [World.frozen?, hA0]); clear hoA hrA hbA hA0 r0 r1))
  have HSA : Hid (∀ a, ra = some a → w1.heap.size ≤ a.block) := hid (fun a ha => by subst ha; exact (HOA.out.lt a.block rfl).1)
  have hk2 := Keep.set (X := fun j => j = w.heap.size) wA ⟨w.heap.size, 2, none⟩ (.slice ra l.length rc) rfl
  have hw1 : w1.heap.size = w.heap.size + 2 := HS1.out
  have hA1 : w1.heap.size ≤ wA.heap.size := HBA.out.size
  have hBw : Below w.heap.size w (wA.setCell ⟨w.heap.size, 2, none⟩ (.slice ra l.length rc)) := (HB.out.trans (HBA.out.mono HB.out.size)).trans (hk2.below (HB.out.trans (HBA.out.mono HB.out.size)).size (fun j e => by rw [e]; omega))
  have h2 : (wA.setCell ⟨w.heap.size, 2, none⟩ (.slice ra l.length rc)).heap[w.heap.size]? = some (.cells #[.int .u64 (si : Int), .int .u64 (st : Int), .slice ra l.length rc] 67 (0, 0)) := set_at (k := 2) (.slice ra l.length rc) HA0.out
  have hz2 : (wA.setCell ⟨w.heap.size, 2, none⟩ (.slice ra l.length rc)).heap[w.heap.size + 1]? = some (.cells #[.int .u64 0, .int .u64 0, .slice none 0 0] 67 (0, 0)) := (hk2.block _ (by omega) (by omega)).trans ((HBA.out.block _ (lt_of_block H1.out)).trans H1.out)
  have hr2 : Rd (wA.setCell ⟨w.heap.size, 2, none⟩ (.slice ra l.length rc)) (.slice ra l.length rc) l := HRA.out.keep hk2 (fun hne j hj e => by
    obtain ⟨a9, ha9, hak⟩ := blk_of hj
    have := HSA.out a9 ha9
    omega)
  have HRR : Hid (l ≠ [] → ∀ a, ra = some a → a.block < (wA.setCell ⟨w.heap.size, 2, none⟩ (.slice ra l.length rc)).heap.size) := hid (fun hne a ha => by have := rd_block HRA.out hne a ha; simpa using this)
  generalize wA.setCell ⟨w.heap.size, 2, none⟩ (.slice ra l.length rc) = wB at *
  have HBw := hid hBw
  have H2 := hid h2
  have HZ2 := hid hz2
  have HR2 := hid hr2
  obtain ⟨y0, y1, y2⟩ := three_cells h2
  obtain ⟨x0, x1, x2⟩ := three_cells hz2
  have g0 : wB.frozen? ⟨w.heap.size + 1, 0, none⟩ = false := by simp [World.frozen?, hz2]
  have g1 : wB.frozen? ⟨w.heap.size + 1, 1, none⟩ = false := by simp [World.frozen?, hz2]
  have g2 : wB.frozen? ⟨w.heap.size + 1, 2, none⟩ = false := by simp [World.frozen?, hz2]
  clear hBw h2 hz2 hr2 hk2 hA1 f2
  go_wp2_with fail
  have k0 := set_at (k := 0) (.int .u64 (si : Int)) HZ2.out
  have k1 := set_at (k := 1) (.int .u64 (st : Int)) k0
  have k2 := set_at (k := 2) (.slice ra l.length rc) k1
  have HKS := ((Keep.set (X := fun j => j = w.heap.size + 1) wB ⟨w.heap.size + 1, 0, none⟩ (.int .u64 (si : Int)) rfl).trans (Keep.set (X := fun j => j = w.heap.size + 1) _ ⟨w.heap.size + 1, 1, none⟩ (.int .u64 (st : Int)) rfl)).trans (Keep.set (X := fun j => j = w.heap.size + 1) _ ⟨w.heap.size + 1, 2, none⟩ (.slice ra l.length rc) rfl)
  have hbw := HBw.out
  have hs9 := HS1.out
  refine bodyPost_ret (results_cell_row rfl _ _ (w.heap.size + 1) 67 _ (0, 0) _ rfl k2 Try.underlying67 rfl (by kernel_rfl)) rfl ?_
  refine ⟨⟨ra, rc, l⟩, rfl, rfl, HR2.out.keep HKS (fun hne j hj e => ?_), hbw.trans (HKS.below hbw.size (fun j e => by rw [e]; omega)), fun a ha => by have := HSA.out a ha; omega⟩
  obtain ⟨a9, ha9, hak⟩ := blk_of hj
  have := HSA.out a9 ha9
  omega
end Go.Proofs.Ytdaecndbdinddaa
