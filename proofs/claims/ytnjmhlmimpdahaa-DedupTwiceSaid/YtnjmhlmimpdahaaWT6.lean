/- The law DedupTwice holds of the landed program, for all arguments: a call that is done twice is done once, and one that is late is not done. -/
import Derived.LoopTactic
import Derived.WalkKit
import Derived.OpenShut
import Derived.Test.YtnjmhlmimpdahaaRows
import Derived.WalkSpells
import Derived.WalkLawsBesides
import Derived.Laws.AppendOwnNone
import Derived.ProofKit
import Derived.ShutString
import Derived.ChangeOld
import Derived.Below
import Derived.SizedLaws
import Derived.Deep.Slices
import Derived.Deep.AppendLies
import Derived.Deep.RegionLaw
import Derived.BigRegion
import Derived.Maps.OwnOps
import Derived.Maps.OwnSet
import Derived.Maps.Views
import Derived.Great.BuildSlice
import Derived.Deep.RegionWith
import Derived.Lib.SlBytesConst
import Derived.Deep.Matrix
import Derived.Deep.Grids
import Derived.Deep.Strs
import Derived.Deep.RegionHeld3
import Derived.Lib.ConvBytes
import Derived.Laws.AppendOwn
import Derived.Deep.CutRange
import Derived.Deep.MidRow
import Derived.Great.Walk
import Derived.Test.YtnjmhlmimpdahaaWT1
import Derived.Test.YtnjmhlmimpdahaaWT2
import Derived.Test.YtnjmhlmimpdahaaWT3
import Derived.Test.YtnjmhlmimpdahaaWT4
import Derived.Test.YtnjmhlmimpdahaaWT5
set_option linter.unusedVariables false
set_option linter.unusedSimpArgs false
set_option linter.unusedVariables false
set_option linter.unusedSimpArgs false
set_option maxRecDepth 100000
namespace Go.Proofs.Ytnjmhlmimpdahaa
open Go.RowKit Go.Deep Go.ChangeShapes Go.WideShapes Go.ChangeAt
namespace dedupTwice

/-- The j-th bytes. -/
def dat (R : List Rc) (j : Nat) : List UInt8 := (R[j]?.map (·.b)).getD []
/-- What is kept behind k rounds. -/
def fT (R : List Rc) (k : Nat) : Nat → Option (Nat × List UInt8) := fun c => if c = 7 ∧ 0 < k then some (k, ansL k (dat R (k - 1))) else none
def lT (R : List Rc) (k : Nat) : List (List UInt8) := (R.take k).map (·.b)

theorem doS_fT (R : List Rc) (k : Nat) : doS (fT R k) 7 = k := by
  unfold doS fT
  by_cases h : 0 < k
  · rw [if_pos ⟨rfl, h⟩]; rfl
  · rw [if_neg (fun e => h e.2)]; show (0 : Nat) = k; omega
theorem f_zero (R : List Rc) : fT R 0 = fun _ => none := by
  funext c
  unfold fT
  rw [if_neg (fun e => Nat.lt_irrefl 0 e.2)]
theorem doA_fT (R : List Rc) (k : Nat) : doA (fT R (k + 1)) 7 = ansL (k + 1) (dat R k) := by
  unfold doA fT
  rw [if_pos ⟨rfl, Nat.succ_pos k⟩]; rfl
theorem doA_le (R : List Rc) (k : Nat) (h : ∀ j, j < k → (dat R j).length ≤ 300) : (doA (fT R k) 7).length ≤ 1000 := by
  unfold doA fT
  by_cases h0 : 0 < k
  · rw [if_pos ⟨rfl, h0⟩]
    have := h (k - 1) (by omega)
    show (ansL k (dat R (k - 1))).length ≤ 1000
    simp [ansL]; omega
  · rw [if_neg (fun e => h0 e.2)]; show ([] : List UInt8).length ≤ 1000; decide
theorem lT_len (R : List Rc) {k : Nat} (h : k ≤ R.length) : (lT R k).length = k := by unfold lT; rw [List.length_map, List.length_take]; omega
theorem lT_succ (R : List Rc) {k : Nat} (h : k < R.length) : lT R (k + 1) = lT R k ++ [dat R k] := by
  unfold lT dat
  rw [List.take_add_one, List.getElem?_eq_getElem h, List.map_append]
  rfl
theorem out_new (R : List Rc) {k : Nat} (h : k ≤ R.length) : doOut (fT R k) (lT R k) 7 (k + 1) (dat R k) = ansL (k + 1) (dat R k) := by
  unfold doOut
  rw [doS_fT, if_neg (by omega), if_neg (by omega), lT_len R h]
theorem f_new (R : List Rc) {k : Nat} (h : k ≤ R.length) : doF (fT R k) (lT R k) 7 (k + 1) (dat R k) = fT R (k + 1) := by
  unfold doF
  rw [doS_fT, if_pos (by omega), lT_len R h]
  funext c
  unfold updF fT
  by_cases e : c = 7
  · rw [if_pos e, if_pos ⟨e, Nat.succ_pos k⟩]; rfl
  · rw [if_neg e, if_neg (fun x => e x.1), if_neg (fun x => e x.1)]
theorem l_new (R : List Rc) {k : Nat} (h : k < R.length) : doL (fT R k) (lT R k) 7 (k + 1) (dat R k) = lT R (k + 1) := by
  unfold doL
  rw [doS_fT, if_pos (by omega), lT_succ R h]
theorem out_same (R : List Rc) (k : Nat) (L : List (List UInt8)) (l : List UInt8) : doOut (fT R (k + 1)) L 7 (k + 1) l = ansL (k + 1) (dat R k) := by
  unfold doOut
  rw [doS_fT, if_neg (by omega), if_pos rfl, doA_fT]
theorem f_old (R : List Rc) (k s : Nat) (L : List (List UInt8)) (l : List UInt8) (h : s ≤ k) : doF (fT R k) L 7 s l = fT R k := by
  unfold doF
  rw [doS_fT, if_neg (by omega)]
theorem l_old (R : List Rc) (k s : Nat) (L : List (List UInt8)) (l : List UInt8) (h : s ≤ k) : doL (fT R k) L 7 s l = L := by
  unfold doL
  rw [doS_fT, if_neg (by omega)]
theorem out_old (R : List Rc) (k s : Nat) (L : List (List UInt8)) (l : List UInt8) (h : s < k) : doOut (fT R k) L 7 s l = [] := by
  unfold doOut
  rw [doS_fT, if_pos h]

/-- The tape's k-th string. -/
theorem tape_get {w : World} {base : Nat} {v : Value} {L : List (List UInt8)} (h : w.ownsRow base 9 1 v L.length (L.map cmdV)) {k : Nat} (hk : k < L.length) : ∃ g cap, v = .slice (some ⟨g, 0, none⟩) L.length cap ∧ L.length ≤ cap ∧ w.cell? ⟨g, k, none⟩ = some (cmdV L[k]) := by
  rcases h.2 with ⟨rfl, hn⟩ | ⟨g, cap, cur, rfl, hg1, hg, hn, hc, hs, ht⟩
  · omega
  · refine ⟨g, cap, rfl, hn, ?_⟩
    have := h.cells (g := g) rfl k (cmdV L[k]) (by rw [List.getElem?_map, List.getElem?_eq_getElem hk]; rfl)
    rw [WideShapes.add_plain, Nat.zero_add] at this
    exact this

theorem row_get {w : World} {a : Option Addr} {len cap : Nat} {zs : List Int} (h : IsRow .i64 w a len cap zs) {k : Nat} (hk : k < len) : ∃ b off z, a = some ⟨b, off, none⟩ ∧ w.cell? ⟨b, off + k, none⟩ = some (.int .i64 z) := by
  rcases h with ⟨-, e, -⟩ | ⟨x, rfl, h1, h2, h3, h4, -⟩
  · omega
  · obtain ⟨b, off, spot⟩ := x
    have h5 := h4 k (by omega)
    have hs : spot = none := by
      have h0 := h4 0 (by omega)
      simpa [Addr.add] using World.cell?_spot h0
    subst hs
    rw [WideShapes.add_plain] at h5
    exact ⟨b, off, _, rfl, h5⟩

set_option maxHeartbeats 16000000 in
theorem walk {H : Type} {enc : TypeId × Value → H} (v0 : Value) (a1 : Option Addr) (len1 cap1 : Nat) (z1 : List Int) (W : World) {base : Nat} {d0 : DataW H} {p0 : List MemPlace} (hw0 : Value.okWide Try.prog W .any base 50 v0) (h0 : DataW.Trod enc Try.prog W 0 (fun _ => true) true 50 v0 d0 p0) (w1 : IsRow .i64 W a1 len1 cap1 z1) (b1 : cap1 * 8 ≤ 140737488351232) :
    Calls Try.prog 4 #[v0, .slice a1 len1 cap1] W (fun e w' => e = .returned (.bool true) ∧ Below W.heap.size W w') := by
  obtain ⟨a0, n0, c0, rfl⟩ := WideShapes.okWide_slice Try.underlying50 hw0
  obtain ⟨R, hl, hI⟩ := bss_open h0
  subst hl
  obtain ⟨_, c9, e9, hcap, hmax⟩ := hI.form
  have hcc : R.length ≤ c0 := by simp only [Value.slice.injEq] at e9; omega
  have HI := hid hI
  have HW1 := hid w1
  have hm1 : len1 ≤ cap1 := by rcases w1 with ⟨-, e1, e2, -⟩ | ⟨_, _, h9, _⟩; omega; exact h9
  have hb0 : Below W.heap.size W (W.alloc (.cells #[.slice none 0 0] 27)) := (Below.refl _ _).alloc (Nat.le_refl _) _
  have CN := hid (dnew_any (w := W.alloc (.cells #[.slice none 0 0] 27)) (tp := W.heap.size) (v := .slice none 0 0) (L := []) (base := W.heap.size) tape_new (World.ownsRow_nil _ _ _ _) (Nat.le_refl _))
  have HB0 := hid hb0
  have HMX := hid (And.intro hcc hmax)
  clear hw0 h0 w1 b1 hI e9 hcap hb0 hmax
  go_enter Try.func4, Try.ntmps4
  go_upto_region 6 with (first
    | (go_at_call 8; refine CN.out.mono ?_; rintro en w1 ⟨d, mb, rfl, hd1, hm1, hM, hb1⟩; have HM := hid hM; have HB1 := hid (HB0.out.trans (hb1.mono HB0.out.size)); clear hd1 hm1 hM hb1)
    | (go_at_call 9; refine (dawake_any _).mono ?_; rintro en w2 ⟨rfl, hb2⟩; have HM2 := hid (HM.out.kept hb2); have HB2 := hid (HB1.out.trans (hb2.mono HB1.out.size)); clear hb2))
  go_wp2_with fail
  go_loopw [7, 8] (fun a i wr => ∃ k m v, k ≤ R.length ∧ k ≤ 40 ∧ m ≤ 3 * k ∧ (∀ j, j < k → (dat R j).length ≤ 300) ∧ a = .int .i64 (k : Int) ∧ i = .int .i64 (k : Int) ∧ Mch wr d mb W.heap.size v m (fT R k) (lT R k) W.heap.size ∧ Below W.heap.size W wr) (fun _ i _ => R.length - (intOf i).toNat)
  case atStart => exact ⟨0, 0, _, Nat.zero_le _, by omega, by omega, fun j hj => absurd hj (Nat.not_lt_zero j), rfl, rfl, by rw [f_zero]; exact HM2.out, HB2.out⟩
  case round =>
    obtain ⟨k, m, v, hk, hk4, hm, hsm, rfl, rfl, hM, hB⟩ := hrel
    have HMr := hid hM
    have HBr := hid hB
    have HSM := hid hsm
    clear hM hB hsm
    by_cases hlt : k < R.length
    · by_cases hl40 : k < 40
      · have hki : (k : Int) < (R.length : Int) := by omega
        have hk40 : (k : Int) < 40 := by omega
        obtain ⟨bk, off, hao, hcell, hrd⟩ := HI.out.get (List.getElem?_eq_getElem hlt)
        obtain ⟨da, dc, db, hq⟩ : ∃ da dc db, R[k] = (⟨da, dc, db⟩ : Rc) := ⟨_, _, _, rfl⟩
        rw [hq] at hcell hrd
        have hdat : dat R k = db := by unfold dat; rw [List.getElem?_eq_getElem hlt, hq]; rfl
        subst hao
        have hcr : wr.cell? ⟨bk, off + k, none⟩ = some (.slice da db.length dc) := (HBr.out.cell (p := ⟨bk, off + k, none⟩) (World.block_lt_of_cell? _ _ hcell)).trans hcell
        have HCL := hid hcell
        have HRD := hid (show Rd W (.slice da db.length dc) db from hrd)
        have hdcl : db.length ≤ dc := by obtain ⟨_, _, e9, q9, _⟩ := HRD.out; simp only [Value.slice.injEq] at e9; omega
        clear hcell hrd hq
        by_cases h3 : (300 : Int) < (db.length : Int)
        · go_wp2_with fail
          go_ret
          exact ⟨rfl, HBr.out⟩
        · skip
          have hd3 : db.length ≤ 300 := by omega
          have e1 : doOut (fT R k) (lT R k) 7 (k + 1) db = ansL (k + 1) db := by rw [← hdat]; exact out_new R hk
          have e2 : doF (fT R k) (lT R k) 7 (k + 1) db = fT R (k + 1) := by rw [← hdat]; exact f_new R hk
          have e3 : doL (fT R k) (lT R k) 7 (k + 1) db = lT R (k + 1) := by rw [← hdat]; exact l_new R hlt
          have e4 : doOut (fT R (k + 1)) (lT R (k + 1)) 7 (k + 1) db = ansL (k + 1) db := by rw [← hdat]; exact out_same R k _ _
          have e5 : doF (fT R (k + 1)) (lT R (k + 1)) 7 (k + 1) db = fT R (k + 1) ∧ doL (fT R (k + 1)) (lT R (k + 1)) 7 (k + 1) db = lT R (k + 1) := ⟨f_old R (k + 1) (k + 1) _ _ (Nat.le_refl _), l_old R (k + 1) (k + 1) _ _ (Nat.le_refl _)⟩
          have e6 : doS (fT R (k + 1)) 7 = (k + 1) := doS_fT R (k + 1)
          have hll : (lT R (k + 1)).length = (k + 1) := lT_len R (by omega)
          have hlk : (lT R (k + 1))[k]? = some db := by
            rw [lT_succ R hlt, List.getElem?_append_right (by rw [lT_len R hk]; omega), lT_len R hk, hdat]; simp
          have hsm2 : ∀ j, j < (k + 1) → (dat R j).length ≤ 300 := fun j hj => by
            by_cases e : j = k
            · rw [e, hdat]; exact hd3
            · exact HSM.out j (by omega)
          have hda1 := doA_le R k HSM.out
          have hda2 := doA_le R (k + 1) hsm2
          have HE := hid (And.intro e1 (And.intro e2 (And.intro e3 (And.intro e4 (And.intro e5 e6)))))
          have HSB := hid (And.intro (rfl : k + 1 = k + 1) (And.intro hll (And.intro hlk (And.intro hsm2 (And.intro hda1 (And.intro hda2 hd3))))))
          have hk1k : (k + 1) ≤ 40 := by omega
          have HS40 := hid hk1k
          clear e1 e2 e3 e4 e5 e6 hll hlk hsm2 hda1 hda2 hdat
          have CC : Hid (Calls Try.prog 14 #[.agg #[.int .u64 7, .int .u64 ((k : Int) + 1), .slice da db.length dc]] wr (Gives 5 wr (callB 7 (k + 1) db))) := hid (refCall_any (W := wr) (cl := 7) (sq := (k + 1)) (y := .slice da db.length dc) (l := db) (by decide) (by omega) (by omega) (HRD.out.old HBr.out) rfl)
          clear hd3 hk1k
          go_upto_region 12 with (first | (go_at_call 14; refine CC.out.mono ?_; rintro en w3 ⟨xx, rfl, ho, hb3⟩; have HO3 := hid ho; obtain ⟨xo, xc, rfl, hrx⟩ := gives_rd ho; have HR3 := hid hrx; have HB3 := hid (HBr.out.trans (hb3.mono HBr.out.size)); have HM3 := hid (HMr.out.kept hb3); clear ho hrx hb3))
          clear hcr CC
          obtain ⟨BB, hBB⟩ : ∃ BB, BB = callB 7 (k + 1) db := ⟨_, rfl⟩
          have hrdB : rdF sCall (BB, 0) = (numL 7 ++ (numL (k + 1) ++ textL db), [], 0) := by rw [hBB]; exact callB_rd (by decide) (by have := HS40.out; omega) (by have := HSB.out.2.2.2.2.2.2; omega)
          have hlB : BB.length ≤ 1030 := by rw [hBB]; exact callB_len (by decide) (by have := HS40.out; omega) (by have := HSB.out.2.2.2.2.2.2; omega)
          rw [← hBB] at HO3 HR3 ⊢
          have HBL := hid (And.intro hrdB hlB)
          clear hrdB hlB hBB
          have D1 := hid (do_any (cl := 7) (sq := (k + 1)) (data := db) HM3.out HR3.out (by have := HBL.out.2; omega) HBL.out.1 (by decide) (by have := HS40.out; omega) (by have := HSB.out.2.2.2.2.2.2; omega) (by omega) (by rw [lT_len R hk]; omega) (by have := HSB.out.2.2.2.2.1; omega))
          go_upto_region 13 with (first | (go_at_call 16; refine D1.out.mono ?_; rintro en w4 ⟨o4, v4, rfl, ho4, hM4, -, hk4, -⟩; rw [HE.out.1] at ho4; rw [HE.out.2.1, HE.out.2.2.1] at hM4; obtain ⟨ao, ac, rfl, hra⟩ := gives_rd ho4; have HRA := hid hra; have HM4 := hid hM4; have HB4 := hid (HB3.out.trans (HM3.out.below hk4)); have HO4 := hid (HM3.out.row hk4 HO3.out); clear ho4 hM4 hk4 hra))
          go_upto_region 14 with fail
          clear D1
          obtain ⟨g, cap, hv4, hgc, hcg⟩ := tape_get HM4.out.hv (k := k) (by rw [HSB.out.2.1]; have := HSB.out.1; omega)
          have hcg2 : w4.cell? ⟨g, k, none⟩ = some (.string ⟨db.toArray⟩) := by
            rw [hcg]
            have h9 := HSB.out.2.2.1
            rw [List.getElem?_eq_getElem (by rw [HSB.out.2.1]; have := HSB.out.1; omega)] at h9
            rw [Option.some.inj h9]; rfl
          rw [HSB.out.2.1] at hv4 hgc
          subst hv4
          have hks : k < (k + 1) := by have := HSB.out.1; omega
          obtain ⟨S9, hS9⟩ : ∃ S9 : World → Prop, S9 = fun V => V.heap[W.heap.size]? = some (.cells #[.slice (some ⟨g, 0, none⟩) (k + 1) cap] 27 (0, 0)) ∧ V.cell? ⟨g, k, none⟩ = some (.string ⟨db.toArray⟩) ∧ Below W.heap.size W V := ⟨_, rfl⟩
          have HS : Hid (∀ V, V.heap[W.heap.size]? = some (.cells #[.slice (some ⟨g, 0, none⟩) (k + 1) cap] 27 (0, 0)) → V.cell? ⟨g, k, none⟩ = some (.string ⟨db.toArray⟩) → Below W.heap.size W V → S9 V) := hid fun V h1 h2 h3 => by rw [hS9]; exact ⟨h1, h2, h3⟩
          have HSI : Hid (∀ V, S9 V → V.cell? ⟨W.heap.size, 0, none⟩ = some (.slice (some ⟨g, 0, none⟩) (k + 1) cap) ∧ V.cell? ⟨g, k, none⟩ = some (.string ⟨db.toArray⟩) ∧ V.cell? ⟨bk, off + k, none⟩ = some (.slice da db.length dc) ∧ _) := hid fun V h => by
            rw [hS9] at h
            exact ⟨(one_cell h.1).1, h.2.1, (h.2.2.cell (p := ⟨bk, off + k, none⟩) (World.block_lt_of_cell? _ _ HCL.out)).trans HCL.out, (HRD.out.old h.2.2).conv (P := Try.prog) 35 9 5 Try.underlying35 Try.underlying5 Try.underlying9⟩
          clear hS9 hcg
          have hWd : Below w4.heap.size w4 w4.drew := ⟨rfl, rfl, rfl, Nat.le_refl _, fun _ _ => rfl⟩
          have HMd := hid (HM4.out.kept hWd)
          have HTd : Hid (w4.drew.heap[W.heap.size]? = some (.cells #[.slice (some ⟨g, 0, none⟩) (k + 1) cap] 27 (0, 0))) := hid HM4.out.ht
          have HGd : Hid (w4.drew.cell? ⟨g, k, none⟩ = some (.string ⟨db.toArray⟩)) := hid hcg2
          have HBd : Hid (Below W.heap.size W w4.drew) := hid (HB4.out.trans (hWd.mono HB4.out.size))
          have D2 := hid (do_any (cl := 7) (sq := (k + 1)) (data := db) HMd.out ((Rd.own HO4.out).old hWd) (by have := HBL.out.2; omega) HBL.out.1 (by decide) (by have := HS40.out; omega) (by have := HSB.out.2.2.2.2.2.2; omega) (by omega) (by rw [HSB.out.2.1]; have := HS40.out; omega) (by have := HSB.out.2.2.2.2.2.1; omega))
          have HRA := hid (HRA.out.old hWd)
          clear hWd hcg2
          refine wp_region_noPanic ?_
          refine wp_region_held_drew (S := S9) (by kernel_rfl) (HS.out _ HTd.out HGd.out HBd.out) (fun hHeld => ?_)
          have hwk : IntKind.i64.wrap (k : Int) = (k : Int) := by rw [IntKind.wrap_i64]; omega
          have hbk : ¬ ((k : Int) + 1 ≤ (k : Int)) := by omega
          have hbr : ¬ R.length ≤ k := by omega
          generalize w4.drew = Wd at *
          refine wpAnyH_take (i := 0) (v := (.pointer (some ⟨W.heap.size, 0, none⟩))) rfl (by kernel_rfl) (by kernel_rfl) (by kernel_rfl) (fun _ _ _ h => (show False from h).elim) ?xyTW1 ?xhTW1 ?xrTW1
          case xhTW1 => exact hHeld
          case xyTW1 => exact Or.inl ⟨by rfl, fun W9 hW => by clear hHeld; simp only [List.getElem_toArray, List.getElem_cons_succ, List.getElem_cons_zero]; go_simp⟩
          simp only [Act.put, List.getElem_toArray, List.getElem_cons_succ, List.getElem_cons_zero, List.setIfInBounds_toArray, List.set_cons_succ, List.set_cons_zero]
          refine wpAnyH_take (i := 1) (v := (.pointer (some ⟨W.heap.size, 0, none⟩))) rfl (by kernel_rfl) (by kernel_rfl) (by kernel_rfl) (fun _ _ _ h => (show False from h).elim) ?xyTW2 ?xhTW2 ?xrTW2
          case xhTW2 => exact hHeld
          case xyTW2 => exact Or.inl ⟨by rfl, fun W9 hW => by clear hHeld; simp only [List.getElem_toArray, List.getElem_cons_succ, List.getElem_cons_zero]; go_simp⟩
          simp only [Act.put, List.getElem_toArray, List.getElem_cons_succ, List.getElem_cons_zero, List.setIfInBounds_toArray, List.set_cons_succ, List.set_cons_zero]
          refine wpAnyH_take (i := 2) (v := (.pointer (some ⟨W.heap.size, 0, none⟩))) rfl (by kernel_rfl) (by kernel_rfl) (by kernel_rfl) (fun _ _ _ h => (show False from h).elim) ?xyTW3 ?xhTW3 ?xrTW3
          case xhTW3 => exact hHeld
          case xyTW3 => exact Or.inl ⟨by rfl, fun W9 hW => by clear hHeld; simp only [List.getElem_toArray, List.getElem_cons_succ, List.getElem_cons_zero]; go_simp⟩
          simp only [Act.put, List.getElem_toArray, List.getElem_cons_succ, List.getElem_cons_zero, List.setIfInBounds_toArray, List.set_cons_succ, List.set_cons_zero]
          refine wpAnyH_take (i := 3) (v := (.slice (some ⟨g, 0, none⟩) (k + 1) cap)) rfl (by kernel_rfl) (by kernel_rfl) (by kernel_rfl) (fun _ _ _ h => (show False from h).elim) ?xyTW4 ?xhTW4 ?xrTW4
          case xhTW4 => exact hHeld
          case xyTW4 => exact Or.inl ⟨by rfl, fun W9 hW => by obtain ⟨y0, y1, y2, y3⟩ := HSI.out _ hW; clear hHeld; simp only [List.getElem_toArray, List.getElem_cons_succ, List.getElem_cons_zero]; go_simp⟩
          simp only [Act.put, List.getElem_toArray, List.getElem_cons_succ, List.getElem_cons_zero, List.setIfInBounds_toArray, List.set_cons_succ, List.set_cons_zero]
          refine wpAnyH_take (i := 4) (v := (.int .i64 ((k : Int) + 1))) rfl (by kernel_rfl) (by kernel_rfl) (by kernel_rfl) (fun _ _ _ h => (show False from h).elim) ?xyTW5 ?xhTW5 ?xrTW5
          case xhTW5 => exact hHeld
          case xyTW5 => exact Or.inl ⟨by rfl, fun W9 hW => by clear hHeld; simp only [List.getElem_toArray, List.getElem_cons_succ, List.getElem_cons_zero]; go_simp⟩
          simp only [Act.put, List.getElem_toArray, List.getElem_cons_succ, List.getElem_cons_zero, List.setIfInBounds_toArray, List.set_cons_succ, List.set_cons_zero]
          refine wpAnyH_take (i := 5) (v := (.int .i64 ((k : Int) + 1))) rfl (by kernel_rfl) (by kernel_rfl) (by kernel_rfl) (fun _ _ _ h => (show False from h).elim) ?xyTW6 ?xhTW6 ?xrTW6
          case xhTW6 => exact hHeld
          case xyTW6 => exact Or.inl ⟨by rfl, fun W9 hW => by clear hHeld; simp only [List.getElem_toArray, List.getElem_cons_succ, List.getElem_cons_zero]; go_simp⟩
          simp only [Act.put, List.getElem_toArray, List.getElem_cons_succ, List.getElem_cons_zero, List.setIfInBounds_toArray, List.set_cons_succ, List.set_cons_zero]
          refine wpAnyH_take (i := 6) (v := (.bool false)) rfl (by kernel_rfl) (by kernel_rfl) (by kernel_rfl) (fun _ _ _ h => (show False from h).elim) ?xyTW7 ?xhTW7 ?xrTW7
          case xhTW7 => exact hHeld
          case xyTW7 => exact Or.inl ⟨by rfl, fun W9 hW => by clear hHeld; simp only [List.getElem_toArray, List.getElem_cons_succ, List.getElem_cons_zero]; go_simp⟩
          simp only [Act.put, List.getElem_toArray, List.getElem_cons_succ, List.getElem_cons_zero, List.setIfInBounds_toArray, List.set_cons_succ, List.set_cons_zero]
          refine wpAnyH_take (i := 7) (v := (.bool false)) rfl (by kernel_rfl) (by kernel_rfl) (by kernel_rfl) (fun _ _ _ h => (show False from h).elim) ?xyTW8 ?xhTW8 ?xrTW8
          case xhTW8 => exact hHeld
          case xyTW8 => exact Or.inl ⟨by rfl, fun W9 hW => by clear hHeld; simp only [List.getElem_toArray, List.getElem_cons_succ, List.getElem_cons_zero]; go_simp⟩
          simp only [Act.put, List.getElem_toArray, List.getElem_cons_succ, List.getElem_cons_zero, List.setIfInBounds_toArray, List.set_cons_succ, List.set_cons_zero]
          refine wpAnyH_take (i := 8) (v := (.pointer (some ⟨W.heap.size, 0, none⟩))) rfl (by kernel_rfl) (by kernel_rfl) (by kernel_rfl) (fun _ _ _ h => (show False from h).elim) ?xyTW9 ?xhTW9 ?xrTW9
          case xhTW9 => exact hHeld
          case xyTW9 => exact Or.inl ⟨by rfl, fun W9 hW => by clear hHeld; simp only [List.getElem_toArray, List.getElem_cons_succ, List.getElem_cons_zero]; go_simp⟩
          simp only [Act.put, List.getElem_toArray, List.getElem_cons_succ, List.getElem_cons_zero, List.setIfInBounds_toArray, List.set_cons_succ, List.set_cons_zero]
          refine wpAnyH_take (i := 9) (v := (.pointer (some ⟨W.heap.size, 0, none⟩))) rfl (by kernel_rfl) (by kernel_rfl) (by kernel_rfl) (fun _ _ _ h => (show False from h).elim) ?xyTW10 ?xhTW10 ?xrTW10
          case xhTW10 => exact hHeld
          case xyTW10 => exact Or.inl ⟨by rfl, fun W9 hW => by clear hHeld; simp only [List.getElem_toArray, List.getElem_cons_succ, List.getElem_cons_zero]; go_simp⟩
          simp only [Act.put, List.getElem_toArray, List.getElem_cons_succ, List.getElem_cons_zero, List.setIfInBounds_toArray, List.set_cons_succ, List.set_cons_zero]
          refine wpAnyH_take (i := 10) (v := (.pointer (some ⟨W.heap.size, 0, none⟩))) rfl (by kernel_rfl) (by kernel_rfl) (by kernel_rfl) (fun _ _ _ h => (show False from h).elim) ?xyTW11 ?xhTW11 ?xrTW11
          case xhTW11 => exact hHeld
          case xyTW11 => exact Or.inl ⟨by rfl, fun W9 hW => by clear hHeld; simp only [List.getElem_toArray, List.getElem_cons_succ, List.getElem_cons_zero]; go_simp⟩
          simp only [Act.put, List.getElem_toArray, List.getElem_cons_succ, List.getElem_cons_zero, List.setIfInBounds_toArray, List.set_cons_succ, List.set_cons_zero]
          refine wpAnyH_take (i := 11) (v := (.slice (some ⟨g, 0, none⟩) (k + 1) cap)) rfl (by kernel_rfl) (by kernel_rfl) (by kernel_rfl) (fun _ _ _ h => (show False from h).elim) ?xyTW12 ?xhTW12 ?xrTW12
          case xhTW12 => exact hHeld
          case xyTW12 => exact Or.inl ⟨by rfl, fun W9 hW => by obtain ⟨y0, y1, y2, y3⟩ := HSI.out _ hW; clear hHeld; simp only [List.getElem_toArray, List.getElem_cons_succ, List.getElem_cons_zero]; go_simp⟩
          simp only [Act.put, List.getElem_toArray, List.getElem_cons_succ, List.getElem_cons_zero, List.setIfInBounds_toArray, List.set_cons_succ, List.set_cons_zero]
          refine wpAnyH_take (i := 12) (v := (.int .i64 ((k : Int) + 1))) rfl (by kernel_rfl) (by kernel_rfl) (by kernel_rfl) (fun _ _ _ h => (show False from h).elim) ?xyTW13 ?xhTW13 ?xrTW13
          case xhTW13 => exact hHeld
          case xyTW13 => exact Or.inl ⟨by rfl, fun W9 hW => by clear hHeld; simp only [List.getElem_toArray, List.getElem_cons_succ, List.getElem_cons_zero]; go_simp⟩
          simp only [Act.put, List.getElem_toArray, List.getElem_cons_succ, List.getElem_cons_zero, List.setIfInBounds_toArray, List.set_cons_succ, List.set_cons_zero]
          refine wpAnyH_take (i := 13) (v := (.int .i64 (k : Int))) rfl (by kernel_rfl) (by kernel_rfl) (by kernel_rfl) (fun _ _ _ h => (show False from h).elim) ?xyTW14 ?xhTW14 ?xrTW14
          case xhTW14 => exact hHeld
          case xyTW14 => exact Or.inl ⟨by rfl, fun W9 hW => by clear hHeld; simp only [List.getElem_toArray, List.getElem_cons_succ, List.getElem_cons_zero]; go_simp⟩
          simp only [Act.put, List.getElem_toArray, List.getElem_cons_succ, List.getElem_cons_zero, List.setIfInBounds_toArray, List.set_cons_succ, List.set_cons_zero]
          refine wpAnyH_take (i := 14) (v := (.pointer (some ⟨g, k, none⟩))) rfl (by kernel_rfl) (by kernel_rfl) (by kernel_rfl) (fun _ _ _ h => (show False from h).elim) ?xyTW15 ?xhTW15 ?xrTW15
          case xhTW15 => exact hHeld
          case xyTW15 => exact Or.inl ⟨by rfl, fun W9 hW => by clear hHeld; simp only [List.getElem_toArray, List.getElem_cons_succ, List.getElem_cons_zero]; go_simp⟩
          simp only [Act.put, List.getElem_toArray, List.getElem_cons_succ, List.getElem_cons_zero, List.setIfInBounds_toArray, List.set_cons_succ, List.set_cons_zero]
          refine wpAnyH_take (i := 15) (v := (.string ⟨db.toArray⟩)) rfl (by kernel_rfl) (by kernel_rfl) (by kernel_rfl) (fun _ _ _ h => (show False from h).elim) ?xyTW16 ?xhTW16 ?xrTW16
          case xhTW16 => exact hHeld
          case xyTW16 => exact Or.inl ⟨by rfl, fun W9 hW => by obtain ⟨y0, y1, y2, y3⟩ := HSI.out _ hW; clear hHeld; simp only [List.getElem_toArray, List.getElem_cons_succ, List.getElem_cons_zero]; go_simp⟩
          simp only [Act.put, List.getElem_toArray, List.getElem_cons_succ, List.getElem_cons_zero, List.setIfInBounds_toArray, List.set_cons_succ, List.set_cons_zero]
          refine wpAnyH_take (i := 16) (v := (.slice (some ⟨bk, off, none⟩) R.length c0)) rfl (by kernel_rfl) (by kernel_rfl) (by kernel_rfl) (fun _ _ _ h => (show False from h).elim) ?xyTW17 ?xhTW17 ?xrTW17
          case xhTW17 => exact hHeld
          case xyTW17 => exact Or.inl ⟨by rfl, fun W9 hW => by clear hHeld; simp only [List.getElem_toArray, List.getElem_cons_succ, List.getElem_cons_zero]; go_simp⟩
          simp only [Act.put, List.getElem_toArray, List.getElem_cons_succ, List.getElem_cons_zero, List.setIfInBounds_toArray, List.set_cons_succ, List.set_cons_zero]
          refine wpAnyH_take (i := 17) (v := (.int .i64 (k : Int))) rfl (by kernel_rfl) (by kernel_rfl) (by kernel_rfl) (fun _ _ _ h => (show False from h).elim) ?xyTW18 ?xhTW18 ?xrTW18
          case xhTW18 => exact hHeld
          case xyTW18 => exact Or.inl ⟨by rfl, fun W9 hW => by clear hHeld; simp only [List.getElem_toArray, List.getElem_cons_succ, List.getElem_cons_zero]; go_simp⟩
          simp only [Act.put, List.getElem_toArray, List.getElem_cons_succ, List.getElem_cons_zero, List.setIfInBounds_toArray, List.set_cons_succ, List.set_cons_zero]
          refine wpAnyH_take (i := 18) (v := (.pointer (some ⟨bk, off + k, none⟩))) rfl (by kernel_rfl) (by kernel_rfl) (by kernel_rfl) (fun _ _ _ h => (show False from h).elim) ?xyTW19 ?xhTW19 ?xrTW19
          case xhTW19 => exact hHeld
          case xyTW19 => exact Or.inl ⟨by rfl, fun W9 hW => by clear hHeld; simp only [List.getElem_toArray, List.getElem_cons_succ, List.getElem_cons_zero]; go_simp⟩
          simp only [Act.put, List.getElem_toArray, List.getElem_cons_succ, List.getElem_cons_zero, List.setIfInBounds_toArray, List.set_cons_succ, List.set_cons_zero]
          refine wpAnyH_take (i := 19) (v := (.slice da db.length dc)) rfl (by kernel_rfl) (by kernel_rfl) (by kernel_rfl) (fun _ _ _ h => (show False from h).elim) ?xyTW20 ?xhTW20 ?xrTW20
          case xhTW20 => exact hHeld
          case xyTW20 => exact Or.inl ⟨by rfl, fun W9 hW => by obtain ⟨y0, y1, y2, y3⟩ := HSI.out _ hW; clear hHeld; simp only [List.getElem_toArray, List.getElem_cons_succ, List.getElem_cons_zero]; go_simp⟩
          simp only [Act.put, List.getElem_toArray, List.getElem_cons_succ, List.getElem_cons_zero, List.setIfInBounds_toArray, List.set_cons_succ, List.set_cons_zero]
          refine wpAnyH_take (i := 20) (v := (.string ⟨db.toArray⟩)) rfl (by kernel_rfl) (by kernel_rfl) (by kernel_rfl) (fun _ _ _ h => (show False from h).elim) ?xyTW21 ?xhTW21 ?xrTW21
          case xhTW21 => exact hHeld
          case xyTW21 => exact Or.inl ⟨by rfl, fun W9 hW => by obtain ⟨y0, y1, y2, y3⟩ := HSI.out _ hW; clear hHeld; simp only [List.getElem_toArray, List.getElem_cons_succ, List.getElem_cons_zero]; go_simp⟩
          simp only [Act.put, List.getElem_toArray, List.getElem_cons_succ, List.getElem_cons_zero, List.setIfInBounds_toArray, List.set_cons_succ, List.set_cons_zero]
          refine wpAnyH_take (i := 21) (v := (.bool false)) rfl (by kernel_rfl) (by kernel_rfl) (by kernel_rfl) (fun _ _ _ h => (show False from h).elim) ?xyTW22 ?xhTW22 ?xrTW22
          case xhTW22 => exact hHeld
          case xyTW22 => exact Or.inl ⟨by rfl, fun W9 hW => by clear hHeld; simp only [List.getElem_toArray, List.getElem_cons_succ, List.getElem_cons_zero]; go_simp⟩
          simp only [Act.put, List.getElem_toArray, List.getElem_cons_succ, List.getElem_cons_zero, List.setIfInBounds_toArray, List.set_cons_succ, List.set_cons_zero]
          refine wpAnyH_take (i := 22) (v := (.bool false)) rfl (by kernel_rfl) (by kernel_rfl) (by kernel_rfl) (fun _ _ _ h => (show False from h).elim) ?xyTW23 ?xhTW23 ?xrTW23
          case xhTW23 => exact hHeld
          case xyTW23 => exact Or.inl ⟨by rfl, fun W9 hW => by clear hHeld; simp only [List.getElem_toArray, List.getElem_cons_succ, List.getElem_cons_zero]; go_simp⟩
          simp only [Act.put, List.getElem_toArray, List.getElem_cons_succ, List.getElem_cons_zero, List.setIfInBounds_toArray, List.set_cons_succ, List.set_cons_zero]
          refine wpAnyH_take (i := 23) (v := (.bool false)) rfl (by kernel_rfl) (by kernel_rfl) (by kernel_rfl) (fun _ _ _ h => (show False from h).elim) ?xyTW24 ?xhTW24 ?xrTW24
          case xhTW24 => exact hHeld
          case xyTW24 => exact Or.inl ⟨by rfl, fun W9 hW => by clear hHeld; simp only [List.getElem_toArray, List.getElem_cons_succ, List.getElem_cons_zero]; go_simp⟩
          simp only [Act.put, List.getElem_toArray, List.getElem_cons_succ, List.getElem_cons_zero, List.setIfInBounds_toArray, List.set_cons_succ, List.set_cons_zero]
          refine wpAnyH_take (i := 24) (v := (.pointer (some ⟨d, 0, none⟩))) rfl (by kernel_rfl) (by kernel_rfl) (by kernel_rfl) (fun _ _ _ h => (show False from h).elim) ?xyTW25 ?xhTW25 ?xrTW25
          case xhTW25 => exact hHeld
          case xyTW25 => exact Or.inl ⟨by rfl, fun W9 hW => by clear hHeld; simp only [List.getElem_toArray, List.getElem_cons_succ, List.getElem_cons_zero]; go_simp⟩
          simp only [Act.put, List.getElem_toArray, List.getElem_cons_succ, List.getElem_cons_zero, List.setIfInBounds_toArray, List.set_cons_succ, List.set_cons_zero]
          refine wpAnyH_take (i := 25) (v := (.slice xo BB.length xc)) rfl (by kernel_rfl) (by kernel_rfl) (by kernel_rfl) (fun _ _ _ h => (show False from h).elim) ?xyTW26 ?xhTW26 ?xrTW26
          case xhTW26 => exact hHeld
          case xyTW26 => exact Or.inl ⟨by rfl, fun W9 hW => by clear hHeld; simp only [List.getElem_toArray, List.getElem_cons_succ, List.getElem_cons_zero]; go_simp⟩
          simp only [Act.put, List.getElem_toArray, List.getElem_cons_succ, List.getElem_cons_zero, List.setIfInBounds_toArray, List.set_cons_succ, List.set_cons_zero]
          refine wpAnyH_take (i := 27) (v := (.slice ao (ansL (k + 1) db).length ac)) rfl (by kernel_rfl) (by kernel_rfl) (by kernel_rfl) (fun _ _ _ h => (show False from h).elim) ?xyTW27 ?xhTW27 ?xrTW27
          case xhTW27 => exact hHeld
          case xyTW27 => exact Or.inl ⟨by rfl, fun W9 hW => by clear hHeld; simp only [List.getElem_toArray, List.getElem_cons_succ, List.getElem_cons_zero]; go_simp⟩
          simp only [Act.put, List.getElem_toArray, List.getElem_cons_succ, List.getElem_cons_zero, List.setIfInBounds_toArray, List.set_cons_succ, List.set_cons_zero]
          refine wpAnyH_ready (rs := [26]) (by kernel_rfl) (by simp) ?_
          refine AllReadyH.cons rfl (fun K hK => ?_) AllReadyH.nil
          go_simp
          go_wp2_with (first | (go_at_call 16; refine D2.out.mono ?_; rintro en w5 ⟨o5, v5, rfl, ho5, hM5, -, -, hs5⟩; obtain ⟨rfl, hb5⟩ := hs5 (by have := HE.out.2.2.2.2.2; omega); rw [HE.out.2.2.2.1] at ho5; rw [HE.out.2.2.2.2.1.1, HE.out.2.2.2.2.1.2] at hM5; have HM5 := hid hM5; have HO5 := hid ho5; have HB5 := hid hb5; have CBY := hid (bytes_any _ _ _ _ w5 (Rd.own ho5) (HRA.out.old hb5)); clear hs5 ho5 hM5 hb5))
          refine hK.out _ _ (HS.out _ ((HB5.out.block _ (lt_of_block HTd.out)).trans HTd.out) ((HB5.out.cell (World.block_lt_of_cell? _ _ HGd.out)).trans HGd.out) (HBd.out.trans (HB5.out.mono HBd.out.size))) (fun hHeld => ?_)
          clear hK K
          refine wpAnyH_ready (rs := [28]) (by kernel_rfl) (by simp) ?_
          refine AllReadyH.cons rfl (fun K hK => ?_) AllReadyH.nil
          go_simp
          go_wp2_with (first | (go_at_call 12; refine CBY.out.mono ?_; rintro en w6 ⟨rfl, rfl⟩))
          refine hK.out _ _ (HS.out _ ((HB5.out.block _ (lt_of_block HTd.out)).trans HTd.out) ((HB5.out.cell (World.block_lt_of_cell? _ _ HGd.out)).trans HGd.out) (HBd.out.trans (HB5.out.mono HBd.out.size))) (fun hHeld => ?_)
          clear hK K
          refine wpAnyH_take (i := 29) (v := (.bool false)) rfl (by kernel_rfl) (by kernel_rfl) (by kernel_rfl) (fun _ _ _ h => (show False from h).elim) ?xyTW28 ?xhTW28 ?xrTW28
          case xhTW28 => exact hHeld
          case xyTW28 => exact Or.inl ⟨by rfl, fun W9 hW => by clear hHeld; simp only [List.getElem_toArray, List.getElem_cons_succ, List.getElem_cons_zero]; go_simp⟩
          simp only [Act.put, List.getElem_toArray, List.getElem_cons_succ, List.getElem_cons_zero, List.setIfInBounds_toArray, List.set_cons_succ, List.set_cons_zero]
          refine wpAnyH_take (i := 30) (v := (.bool false)) rfl (by kernel_rfl) (by kernel_rfl) (by kernel_rfl) (fun _ _ _ h => (show False from h).elim) ?xyTW29 ?xhTW29 ?xrTW29
          case xhTW29 => exact hHeld
          case xyTW29 => exact Or.inl ⟨by rfl, fun W9 hW => by clear hHeld; simp only [List.getElem_toArray, List.getElem_cons_succ, List.getElem_cons_zero]; go_simp⟩
          simp only [Act.put, List.getElem_toArray, List.getElem_cons_succ, List.getElem_cons_zero, List.setIfInBounds_toArray, List.set_cons_succ, List.set_cons_zero]
          refine wpAnyH_done (by kernel_rfl) ?_ _
          refine NoPanic.normal ?_
          clear hwk hbk
          have HBX := hid (HBd.out.trans (HB5.out.mono HBd.out.size))
          have HTX := hid ((HB5.out.block _ (lt_of_block HTd.out)).trans HTd.out)
          have HRF := hid (And.intro HM5.out HBX.out)
          by_cases c1 : k < len1
          · by_cases c2 : 0 < k
            · obtain ⟨b7, off7, z, ha1, hz⟩ := row_get HW1.out c1
              subst ha1
              have hz5 : w5.cell? ⟨b7, off7 + k, none⟩ = some (.int .i64 z) := (HBX.out.cell (p := ⟨b7, off7 + k, none⟩) (World.block_lt_of_cell? _ _ hz)).trans hz
              obtain ⟨u, hu⟩ : ∃ u : Nat, IntKind.u64.wrap z = (u : Int) := by rw [wrap_u64]; exact ⟨(z % 18446744073709551616).toNat, by omega⟩
              obtain ⟨q, hq⟩ : ∃ q, q = u % k := ⟨_, rfl⟩
              have hqk : q < k := by rw [hq]; exact Nat.mod_lt _ c2
              have hqt : (u : Int).tmod (k : Int) = (q : Int) := by rw [hq]; rfl
              have hqw : IntKind.i64.wrap (q : Int) = (q : Int) := by rw [IntKind.wrap_i64]; omega
              have hkw : IntKind.u64.wrap (k : Int) = (k : Int) := by rw [wrap_u64]; omega
              have hk0 : ¬ k = 0 := by omega
              have hk1 : (k : Int) < (len1 : Int) := by omega
              have hk2 : (0 : Int) < (k : Int) := by omega
              have hql : q < R.length := by omega
              have hbq : ¬ R.length ≤ q := by omega
              have hq40 : (q : Int) < 40 := by omega
              clear hq hz
              obtain ⟨bq, offq, haq, hcq, hrq⟩ := HI.out.get (List.getElem?_eq_getElem hql)
              obtain ⟨qa, qc, qb, hqq⟩ : ∃ qa qc qb, R[q] = (⟨qa, qc, qb⟩ : Rc) := ⟨_, _, _, rfl⟩
              rw [hqq] at hcq hrq
              have hdq : dat R q = qb := by unfold dat; rw [List.getElem?_eq_getElem hql, hqq]; rfl
              have hqb : qb.length ≤ 300 := by rw [← hdq]; exact HSM.out q hqk
              obtain ⟨rfl, rfl⟩ : bk = bq ∧ off = offq := by simp only [Option.some.injEq, Addr.mk.injEq, and_true] at haq; exact haq
              have hc5 : w5.cell? ⟨bk, off + q, none⟩ = some (.slice qa qb.length qc) := (HBX.out.cell (p := ⟨bk, off + q, none⟩) (World.block_lt_of_cell? _ _ hcq)).trans hcq
              have CC3 : Hid (Calls Try.prog 14 #[.agg #[.int .u64 7, .int .u64 ((q : Int) + 1), .slice qa qb.length qc]] w5 (Gives 5 w5 (callB 7 (q + 1) qb))) := hid (refCall_any (W := w5) (cl := 7) (sq := q + 1) (y := .slice qa qb.length qc) (l := qb) (by decide) (by omega) (by omega) ((show Rd W (.slice qa qb.length qc) qb from hrq).old HBX.out) rfl)
              have hrq3 : rdF sCall (callB 7 (q + 1) qb, 0) = (callB 7 (q + 1) qb, [], 0) := callB_rd (by decide) (by omega) (by omega)
              have HLQ := hid (And.intro hrq3 (And.intro (callB_len (cl := 7) (sq := q + 1) (l := qb) (by decide) (by omega) (by omega)) (And.intro hqb hqk)))
              clear haq hcq hrq hqq hdq hqb hrq3 hqk hql
              go_wp2_with (first
                | (go_at_call 14; refine CC3.out.mono ?_; rintro en w7 ⟨xx, rfl, ho, hb7⟩; have HO7 := hid ho; have HB7 := hid hb7; have HM7 := hid (HM5.out.kept hb7); have D3 := hid (do_any (cl := 7) (sq := q + 1) (data := qb) HM7.out (Rd.own ho) (by have := HLQ.out.2.1; omega) HLQ.out.1 (by decide) (by have := HLQ.out.2.2.2; omega) (by have := HLQ.out.2.2.1; omega) (by omega) (by rw [HSB.out.2.1]; omega) (by have := HSB.out.2.2.2.2.2.1; omega)); clear ho hb7)
                | (go_at_call 16; refine D3.out.mono ?_; rintro en w8 ⟨o8, v8, rfl, ho8, hM8, -, -, hs8⟩; obtain ⟨rfl, hb8⟩ := hs8 (by have := HE.out.2.2.2.2.2; have := HLQ.out.2.2.2; omega); rw [out_old R (k + 1) (q + 1) _ _ (by have := HLQ.out.2.2.2; omega)] at ho8; rw [f_old R (k + 1) (q + 1) _ _ (by have := HLQ.out.2.2.2; omega), l_old R (k + 1) (q + 1) _ _ (by have := HLQ.out.2.2.2; omega)] at hM8; obtain ⟨ro, rc, rfl, -⟩ := (Rd.own (l := []) ho8).form9; have HM8 := hid hM8; have HB8 := hid (HB7.out.trans (hb8.mono HB7.out.size)); have ht8 := (one_cell hM8.ht).1; clear hs8 ho8 hM8 hb8))
              go_roundw
              case rel => exact ⟨k + 1, m + 3, _, by omega, by omega, by omega, HSB.out.2.2.2.1, by go_num, by go_num, HM8.out, HBX.out.trans (HB8.out.mono HBX.out.size)⟩
              case measure => simp [intOf]; omega
            · have hk1 : (k : Int) < (len1 : Int) := by omega
              have hk2 : ¬ (0 : Int) < (k : Int) := by omega
              have ht5 := (one_cell HM5.out.ht).1
              go_wp2_with fail
              go_roundw
              case rel => exact ⟨k + 1, m + 3, _, by omega, by omega, by omega, HSB.out.2.2.2.1, by go_num, by go_num, HM5.out.mono (by omega), HBX.out⟩
              case measure => simp [intOf]; omega
          · have hk1 : ¬ (k : Int) < (len1 : Int) := by omega
            have ht5 := (one_cell HM5.out.ht).1
            go_wp2_with fail
            go_roundw
            case rel => exact ⟨k + 1, m + 3, _, by omega, by omega, by omega, HSB.out.2.2.2.1, by go_num, by go_num, HM5.out.mono (by omega), HBX.out⟩
            case measure => simp [intOf]; omega
      · obtain rfl : k = 40 := by omega
        go_wp2_with fail
        go_ret
        exact ⟨rfl, HBr.out⟩
    · have hki : ¬ (k : Int) < (R.length : Int) := by omega
      go_wp2_with fail
      go_ret
      exact ⟨rfl, HBr.out⟩
end dedupTwice
end Go.Proofs.Ytnjmhlmimpdahaa

namespace Go.Proofs.Ytnjmhlmimpdahaa.dedupTwice
open Go.ChangeShapes Go.WideShapes Go.ChangeAt Go.RowKit
open Go.ChangeMaps (open_string shut_string)
set_option linter.unusedVariables false

theorem own : ownKnob Try.prog.godebug = none := by kernel_rfl
theorem laidOut : laidOutB Try.prog = true := by kernel_rfl

set_option maxRecDepth 100000 in
theorem contract (H : Type) (enc : TypeId × Value → H) (W : World) (base : Nat) (args : Array Value) (ds gs : List (DataW H)) (before : List MemPlace)
    (hval0 : ∀ (j : Nat) t v, Try.f4.params[j]? = some t → args[j]? = some v → Value.okWide Try.prog W .any base t v)
    (hW : DataW.Whole enc Try.prog Try.f4.params.toList Rows.dedupTwiceSpec.vars false W args.toList ds gs before)
    (hsz0 : (DataW.weightsEach Try.prog (Try.f4.params.toList ++ Rows.dedupTwiceSpec.plain.varTypes Try.prog) (ds ++ gs)).all (· ≤ reachBytes) = true) :
    Calls Try.prog 4 args W fun e W' => ∃ v, e = .returned v ∧ Rows.dedupTwiceSpec.post enc Try.prog Try.f4 false true false false W args v W' := by
  have hval : ∀ (j : Nat) t v, Try.f4.params[j]? = some t → args[j]? = some v → Value.okWide Try.prog W .any base t v := hval0
  have hW' := hW
  obtain ⟨p, q, hA0, hV, rfl, hfz, hnd⟩ := hW
  have hA : DataW.TrodAll enc Try.prog W 0 (fun _ => true) true Try.f4.params.toList args.toList ds p := hA0
  have hsz : (DataW.weightsEach Try.prog (Try.f4.params.toList ++ Rows.dedupTwiceSpec.plain.varTypes Try.prog) (ds ++ gs)).all (· ≤ reachBytes) = true := hsz0
  rw [Try.params4] at hA hval hsz
  obtain ⟨v0, vs0, d0, ds0, p0, q0, hargs, rfl, rfl, h0, r0⟩ := trodAll_cons hA
  obtain ⟨v1, vs1, d1, ds1, p1, q1, rfl, rfl, rfl, h1, r1⟩ := trodAll_cons r0
  obtain ⟨rfl, rfl, rfl⟩ := trodAll_nil r1
  obtain rfl : args = #[v0, v1] := by cases args; simp_all
  obtain ⟨rfl, rfl⟩ := trodVars_none hV
  have k0 := h0
  have lt0 : ∀ x ∈ p0, x.block < W.heap.size := by obtain ⟨m, hm⟩ := k0; exact DataW.trod_lt m _ _ _ hm
  have k1 := h1
  have lt1 : ∀ x ∈ p1, x.block < W.heap.size := by obtain ⟨m, hm⟩ := k1; exact DataW.trod_lt m _ _ _ hm
  obtain ⟨a1, len1, cap1, rfl⟩ := okWide_slice Try.underlying51 (hval 1 51 v1 rfl rfl)
  obtain ⟨z1, w1, s1⟩ := isRow_open Try.underlying51 Try.underlying3 (by kernel_rfl) h1
  have b1 := s1 hsz (j := 1) rfl rfl
  rw [show Try.prog.bytesOf 3 = 8 from by kernel_rfl] at b1
  clear hA0 hval0 hsz0
  refine (walk v0 a1 len1 cap1 z1 W (hval 0 50 v0 rfl rfl) h0 w1 b1).mono fun e W' ⟨he, bel⟩ => ?_
  subst he
  exact ⟨_, rfl, _, _, _, [], _, [], hW', trodAll_mk1 (shut_bool Try.underlying4 _), (trodAll_cons_mk (Below.trod laidOut (by kernel_rfl) (of_decide_eq_true (by kernel_rfl)) k0 bel lt0) (trodAll_cons_mk (Below.trod laidOut (by kernel_rfl) (of_decide_eq_true (by kernel_rfl)) k1 bel lt1) trodAll_mk0)), rfl, bel.frame _, fun h => by cases h⟩

set_option maxRecDepth 100000 in
theorem lifted (os : Os) (started : os.Started) (H : Type) (enc : TypeId × Value → H) :
    ReturnsInHanded {} Try.checked os 4 .any (Rows.dedupTwiceSpec.pre6 enc Try.prog Try.f4 Rows.dedupTwiceRow.domain false) (Rows.dedupTwiceSpec.post enc Try.prog Try.f4 false true false false) := by
  refine returnsInHanded_of_change_sized (C := Try.checked) own started (by kernel_rfl) Try.func4
    (ChangeSpec.witness6 (enc := enc) (C := Try.checked) false ⟨#[], #[.slice none 0 0, .slice none 0 0], []⟩ 8 (by kernel_rfl) (by kernel_rfl) (by kernel_rfl) (by kernel_rfl)) ?_
  intro W base args ds gs before hval0 hW _ hsz _
  exact contract H enc W base args ds gs before hval0 hW hsz

theorem over : Rows.dedupTwiceRow.holds Try.pinned (OpenSpec.ofChange Rows.dedupTwiceSpec) :=
  OpenClaim.holds_of_wide 4 Try.f4 rfl rfl rfl rfl rfl rfl rfl ⟨rfl, rfl, rfl, rfl, rfl⟩ rfl rfl rfl rfl rfl (by kernel_rfl) Try.func4 (by kernel_rfl)
    (of_decide_eq_true (by kernel_rfl)) (by unfold Func.isWrapper; first | (rw [if_pos (by decide +kernel)]; kernel_rfl) | (rw [if_neg (by decide +kernel)]; exact ⟨rfl, rfl⟩))
    (fun os started H enc _ => lifted os started H enc)

/-- THE STATEMENT. -/
theorem proved : Rows.DedupTwiceSaid := over
end Go.Proofs.Ytnjmhlmimpdahaa.dedupTwice

