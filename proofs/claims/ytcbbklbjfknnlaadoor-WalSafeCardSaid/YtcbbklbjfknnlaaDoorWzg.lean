/-
  WAL: record, where not all of one is there.
-/
import Derived.Test.YtcbbklbjfknnlaaDoorWza
import Derived.Test.YtcbbklbjfknnlaaDoorWq
set_option linter.unusedVariables false
set_option linter.unusedSimpArgs false
set_option maxRecDepth 100000
namespace Go.Proofs.YtcbbklbjfknnlaaDoor
open Go.RowKit

section
variable {base : Nat} {w : World} {lb db sb n : Nat} {vw rv : Value} {S : List (List UInt8)} {Q : List Wr} {dn : Bool} {lf : Nat} {L : Ls}

set_option maxHeartbeats 8000000 in
theorem record_part (h : Lk w lb db rv L) (hD : Dk base w db sb n vw S Q false lf) (hk : L.h.Ok) (i : Nat) (l : List UInt8) (hl : l.length ≤ 32768) (hi : i + secs l.length ≤ 131072) (hn : 3 ≤ n) (ht : ∀ j, j ≤ 131072 → nmb n L.h j < 18446744073709551616) (m : Nat) (hm1 : 1 ≤ m) (hms : m < secs l.length) (hp : ∀ j, j < m → pieceM S n L.h (i + j) = some (bodyP (pc (recB l) j))) (hpn : pieceM S n L.h (i + m) = none) :
    Calls Tryd.prog 38 #[.pointer (some ⟨lb, 0, none⟩), .int .i64 (i : Int)] w (fun e w' => e = .returned (.tuple #[.slice none 0 0, .nilIface]) ∧ Below w.heap.size w w') := by
  have hsl : secs l.length * 56 < 8 + l.length + 56 ∧ 8 + l.length ≤ secs l.length * 56 := by unfold secs; omega
  have hmz : 56 * m < 8 + l.length := by omega
  have hi : i + m ≤ 131072 := by omega
  clear hsl hms
  have hlp : ∀ j, (bodyP (pc (recB l) j)).length = 56 := fun j => bodyP_len (by rw [pc_len]; omega)
  have CP : Hid (∀ W k, Below w.heap.size w W → k < m → Calls Tryd.prog 55 #[.pointer (some ⟨lb, 0, none⟩), .int .i64 ((i + k : Nat) : Int)] W (PieceS (bodyP (pc (recB l) k)) W)) := hid fun W k hb hk9 => by
    have hL9 : Lk W lb db rv L := h.old hb
    exact piece_some hL9 (hD.old hb) hk (i + k) (by omega) hn ht _ (hp k hk9)
  have CE : Hid (∀ W, Below w.heap.size w W → Calls Tryd.prog 55 #[.pointer (some ⟨lb, 0, none⟩), .int .i64 ((i + m : Nat) : Int)] W (fun e w' => e = .returned (.tuple #[.slice none 0 0, .nilIface]) ∧ Below W.heap.size W w')) := hid fun W hb => by
    have hL9 : Lk W lb db rv L := h.old hb
    have h9 := piece_any hL9 (hD.old hb) hk (i + m) (by omega) hn ht
    rw [hpn] at h9
    refine h9.mono ?_
    rintro e w' ⟨hb, ⟨-, he⟩ | ⟨b, g, c, hb2, -⟩⟩
    · exact ⟨he, hb⟩
    · cases hb2
  have CP0 := CP.out w 0 (Below.refl _ _) hm1
  rw [Nat.add_zero] at CP0
  have HP0 := hid CP0
  have HLP := hid hlp
  have hgr := catP_head l hl 1 (Nat.le_refl _)
  have hz8 : IntKind.i64.wrap (l.length : Int) = (l.length : Int) := by rw [IntKind.wrap_i64]; omega
  have hz9 : IntKind.i64.wrap (8 + (l.length : Int)) = ((8 + l.length : Nat) : Int) := by rw [IntKind.wrap_i64]; omega
  have hzm : ¬ (32768 < (l.length : Int)) := by omega
  have HGR := hid hgr
  clear h hD ht hp hlp CP0 hgr hpn
  go_enter Tryd.func38, Tryd.ntmps38
  go_wp2_with (first | (go_at_call 55; refine HP0.out.mono ?_))
  rintro e w2 ⟨g, c, rfl, ho, hb⟩
  have ho1 : w2.ownsRow w.heap.size 5 1 (.slice (some ⟨g, 0, none⟩) 56 c) 56 ((catP (recB l) 1).map bv) := by
    have e1 : catP (recB l) 1 = bodyP (pc (recB l) 0) := by simp [catP]
    rw [e1]
    exact ho
  have hrd1 : Rd w2 (.slice (some ⟨g, 0, none⟩) 56 c) (catP (recB l) 1) := by
    have e1 : (catP (recB l) 1).length = 56 := catP_len _ _
    have h9 := ho1
    have h8 : w2.ownsRow w.heap.size 5 1 (.slice (some ⟨g, 0, none⟩) 56 c) (catP (recB l) 1).length ((catP (recB l) 1).map bv) := by rw [e1]; exact h9
    have := Rd.own h8
    exact this
  have CG0 := great_any w2 _ _ hrd1 (by rw [catP_len]; omega)
  rw [HGR.out] at CG0
  have CG := hid CG0
  have HO1 := hid ho1
  have HB1 := hid hb
  have heq := fun W => Lib.run_eql_slice_nil (P := Tryd.prog) W 32 5 (some ⟨g, 0, none⟩) 56 c 0 0 Tryd.underlying32
  clear ho ho1 hrd1 CG0 hb
  have HB : Hid ((recB l).length = 8 + l.length) := hid (recB_len l)
  obtain ⟨z, hz⟩ : ∃ z, z = 8 + l.length := ⟨_, rfl⟩
  rw [← hz] at hz9
  have HZ := hid hz
  have hz99 : 8 + (l.length : Int) = (z : Int) := by omega
  have hmz2 : 56 * m < z := by omega
  clear hmz
  clear hz
  go_wp2_with (first | (go_at_call 56; refine CG.out.mono ?_; rintro e w3 ⟨rfl, rfl⟩))
  go_loopw [6, 1] (fun b ii wr => ∃ k g c, k < m ∧ b = .slice (some ⟨g, 0, none⟩) (56 * (k + 1)) c ∧ ii = .int .i64 ((i + k : Nat) : Int) ∧ Hid (wr.ownsRow w.heap.size 5 1 (.slice (some ⟨g, 0, none⟩) (56 * (k + 1)) c) (56 * (k + 1)) ((catP (recB l) (k + 1)).map bv)) ∧ Hid (Below w.heap.size w wr)) (fun _ ii _ => i + m - (intOf ii).toNat)
  case atStart => exact ⟨0, g, c, hm1, rfl, rfl, HO1, HB1⟩
  case round =>
    obtain ⟨k, g', c', hkm, rfl, rfl, HO, HBw⟩ := hrel
    obtain ⟨q, hq⟩ : ∃ q, q = 56 * (k + 1) := ⟨_, rfl⟩
    obtain ⟨ik, hik⟩ : ∃ ik, ik = i + k := ⟨_, rfl⟩
    rw [← hq] at HO ⊢
    rw [← hik]
    have HQ := hid hq
    have HIK := hid hik
    clear hq hik
    have hlen := fun W => run_len_slice (P := Tryd.prog) W 32 3 (some ⟨g', 0, none⟩) q c' Tryd.underlying32
    have hltI : (q : Int) < (z : Int) := by have := HQ.out; omega
    by_cases hk1 : k + 1 < m
    · have HKK := hid hk1
      have CPk0 := CP.out wr (k + 1) HBw.out hk1
      have e2 : i + (k + 1) = ik + 1 := by have := HIK.out; omega
      rw [e2] at CPk0
      have CPk := hid CPk0
      clear CPk0 e2
      have hi9 : IntKind.i64.wrap ((ik : Int) + 1) = ((ik + 1 : Nat) : Int) := by rw [IntKind.wrap_i64]; have := HIK.out; omega
      have HK1 := hid hk1
      clear hk1
      go_wp2_with (first | (go_at_call 55; refine CPk.out.mono ?_))
      rintro e w4 ⟨g4, c4, rfl, ho4, hb4⟩
      have hown := own_old HO.out hb4
      have hbl : (bodyP (pc (recB l) (k + 1))).length = 56 := HLP.out (k + 1)
      have hcat : catP (recB l) (k + 1 + 1) = catP (recB l) (k + 1) ++ bodyP (pc (recB l) (k + 1)) := rfl
      generalize bodyP (pc (recB l) (k + 1)) = bp at *
      have hrd4 : Rd w4 (.slice (some ⟨g4, 0, none⟩) 56 c4) bp := by
        have h8 : w4.ownsRow wr.heap.size 5 1 (.slice (some ⟨g4, 0, none⟩) 56 c4) bp.length (bp.map bv) := by rw [hbl]; exact ho4
        exact Rd.own h8
      have HBW4 : Hid (Below w.heap.size w w4) := HBw.out.trans (hb4.mono HBw.out.size)
      have HW4 : Hid (w.heap.size ≤ w4.heap.size) := HBW4.out.size
      have HCAT := hid hcat
      have HBL := hid hbl
      have heq4 := fun W => Lib.run_eql_slice_nil (P := Tryd.prog) W 32 5 (some ⟨g4, 0, none⟩) 56 c4 0 0 Tryd.underlying32
      have HG4 : Hid (∀ k, (Value.slice (some ⟨g', 0, none⟩) q c').ownBlock = some k → w.heap.size ≤ k) := hid fun k hk => (HO.out.lt k hk).1
      clear hcat hbl ho4 hb4
      go_wp2_with (first | (at_builtin; refine wp_app rfl _ _ 32 rfl w.heap.size 5 Tryd.underlying32 (by kernel_rfl) _ _ _ rfl hown _ _ rfl hrd4 ?capp1 ?capp2 ?_))
      case capp1 => have := HBL.out; have := HQ.out; omega
      case capp2 => exact HW4.out
      rintro v5 w5 ho5 hg5
      have hq5 : q + bp.length = 56 * (k + 1 + 1) := by have := HBL.out; have := HQ.out; omega
      rw [hq5] at ho5
      obtain ⟨g5, c5, rfl⟩ := own_pos ho5 (by omega)
      have HO5 : Hid (w5.ownsRow w.heap.size 5 1 (.slice (some ⟨g5, 0, none⟩) (56 * (k + 1 + 1)) c5) (56 * (k + 1 + 1)) ((catP (recB l) (k + 1 + 1)).map bv)) := by
        have h9 := HCAT.out
        rw [h9, List.map_append]
        exact ho5
      have HB5 : Hid (Below w.heap.size w w5) := HBW4.out.grown hg5 HW4.out HG4.out
      clear ho5 hg5 hq5
      go_wp2_with fail
      go_roundw
      case rel => exact ⟨k + 1, g5, c5, HK1.out, rfl, (by have := HIK.out; subst this; go_num), HO5, HB5⟩
      case measure => have := HIK.out; simp [intOf]; omega
    · have hkk : k + 1 = m := by omega
      have CEw := CE.out wr HBw.out
      have e2 : i + m = ik + 1 := by have := HIK.out; omega
      rw [e2] at CEw
      have CE2 := hid CEw
      have hi9 : IntKind.i64.wrap ((ik : Int) + 1) = ((ik + 1 : Nat) : Int) := by rw [IntKind.wrap_i64]; have := HIK.out; omega
      have heq4 := fun W => Lib.run_eql_slice_nil (P := Tryd.prog) W 32 5 none 0 0 0 0 Tryd.underlying32
      clear CEw e2 hkk hk1
      go_wp2_with (first | (go_at_call 55; refine CE2.out.mono ?_; rintro e w4 ⟨rfl, hb4⟩))
      go_ret2
      exact ⟨rfl, HBw.out.trans (hb4.mono HBw.out.size)⟩

/-- No whole record begins there: no sector of its row, or not all that it should have. -/
def Nor (n : Nat) (S : List (List UInt8)) (H : Hd) (u : Nat) : Prop := pieceM S n H u = none ∨ ∃ l m, l.length ≤ 32768 ∧ u + secs l.length ≤ 131072 ∧ 1 ≤ m ∧ m < secs l.length ∧ (∀ j, j < m → pieceM S n H (u + j) = some (bodyP (pc (recB l) j))) ∧ pieceM S n H (u + m) = none
theorem record_nor (h : Lk w lb db rv L) (hD : Dk base w db sb n vw S Q false lf) (hk : L.h.Ok) (i : Nat) (hi : i ≤ 131072) (hn : 3 ≤ n) (ht : ∀ j, j ≤ 131072 → nmb n L.h j < 18446744073709551616) (hp : Nor n S L.h i) :
    Calls Tryd.prog 38 #[.pointer (some ⟨lb, 0, none⟩), .int .i64 (i : Int)] w (fun e w' => e = .returned (.tuple #[.slice none 0 0, .nilIface]) ∧ Below w.heap.size w w') := by
  rcases hp with hp | ⟨l, m, h1, h2, h3, h4, h5, h6⟩
  · exact record_none h hD hk i hi hn ht hp
  · exact record_part h hD hk i l h1 h2 hn ht m h3 h4 h5 h6
end
end Go.Proofs.YtcbbklbjfknnlaaDoor
