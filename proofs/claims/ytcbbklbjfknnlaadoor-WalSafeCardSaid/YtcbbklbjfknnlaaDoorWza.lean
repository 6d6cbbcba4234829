/-
  WAL: record, where there is one.
-/
import Derived.Test.YtcbbklbjfknnlaaDoorWp
import Derived.Test.YtcbbklbjfknnlaaDoorWd
import Derived.Test.YtcbbklbjfknnlaaDoorWg
set_option linter.unusedVariables false
set_option linter.unusedSimpArgs false
set_option maxRecDepth 100000
namespace Go.Proofs.YtcbbklbjfknnlaaDoor
open Go.RowKit

/-- A sector's body: a piece, and zeros behind it. -/
def bodyP (l : List UInt8) : List UInt8 := l ++ List.replicate (56 - l.length) 0
theorem bodyP_len {l : List UInt8} (h : l.length ≤ 56) : (bodyP l).length = 56 := by unfold bodyP; simp; omega
/-- The bodies of the first k pieces, one behind the other. -/
def catP (B : List UInt8) : Nat → List UInt8
  | 0 => []
  | k + 1 => catP B k ++ bodyP (pc B k)
theorem catP_len (B : List UInt8) : ∀ k, (catP B k).length = 56 * k
  | 0 => rfl
  | k + 1 => by
    rw [catP, List.length_append, catP_len B k, bodyP_len (by rw [pc_len]; omega)]
    omega
theorem catP_eq (B : List UInt8) : ∀ k, (∀ j, j < k → 56 * j < B.length) → catP B k = B.take (56 * k) ++ List.replicate (56 * k - B.length) 0
  | 0, _ => by simp [catP]
  | k + 1, h => by
    have hk := h k (by omega)
    rw [catP, catP_eq B k (fun j hj => h j (by omega))]
    have e0 : 56 * k - B.length = 0 := by omega
    have e1 : B.take (56 * (k + 1)) = B.take (56 * k) ++ pc B k := by
      unfold pc
      rw [show 56 * (k + 1) = 56 * k + 56 from by omega, List.take_add]
    rw [e0, e1]
    unfold bodyP
    rw [pc_len]
    have e2 : 56 - min 56 (B.length - 56 * k) = 56 * (k + 1) - B.length := by omega
    rw [e2]
    simp
theorem recB_len (l : List UInt8) : (recB l).length = 8 + l.length := by unfold recB; rw [List.length_append, le8_len]
/-- The record's length stands at its beginning. -/
theorem catP_head (l : List UInt8) (hl : l.length ≤ 32768) (k : Nat) (hk : 1 ≤ k) : gr ((catP (recB l) k).take 8) = l.length := by
  have h1 : (catP (recB l) k).take 8 = le8 l.length := by
    obtain ⟨m, rfl⟩ : ∃ m, k = m + 1 := ⟨k - 1, by omega⟩
    have hb := recB_len l
    have h2 : ∀ m, (catP (recB l) (m + 1)).take 8 = (catP (recB l) 1).take 8 := fun m => by
      induction m with
      | zero => rfl
      | succ m ih =>
        rw [catP, List.take_append_of_le_length (by rw [catP_len]; omega), ih]
    rw [h2, catP_eq _ 1 (fun j hj => by omega), List.take_append_of_le_length (by rw [List.length_take]; omega), List.take_take]
    unfold recB
    rw [show min 8 (56 * 1) = 8 from rfl, List.take_append_of_le_length (by rw [le8_len]; exact Nat.le_refl _), List.take_of_length_le (by rw [le8_len]; exact Nat.le_refl _)]
  rw [h1]
  exact gr_le8 (by omega)
/-- And the record behind that. -/
theorem catP_mid (l : List UInt8) (k : Nat) (hk : ∀ j, j < k → 56 * j < (recB l).length) (hk2 : (recB l).length ≤ 56 * k) : ((catP (recB l) k).drop 8).take ((8 + l.length) - 8) = l := by
  rw [catP_eq _ k hk, List.take_of_length_le hk2]
  unfold recB
  rw [List.append_assoc, List.drop_append_of_le_length (by rw [le8_len]; exact Nat.le_refl _), List.drop_of_length_le (by rw [le8_len]; exact Nat.le_refl _)]
  simp

theorem own_pos {w : World} {base n : Nat} {e : TypeId} {v : Value} {xs : List Value} (h : w.ownsRow base e 1 v n xs) (hn : 0 < n) : ∃ g c, v = .slice (some ⟨g, 0, none⟩) n c := by
  obtain ⟨m, rfl⟩ : ∃ m, n = m + 1 := ⟨n - 1, by omega⟩
  exact ownsRow_succ h

theorem mid_own {w : World} {base g n c : Nat} {l : List UInt8} (h : w.ownsRow base 5 1 (.slice (some ⟨g, 0, none⟩) n c) n (l.map bv)) (hl : l.length = n) (lo hi : Nat) (h1 : lo ≤ hi) (h2 : hi ≤ n) (h4 : lo < n) :
    ∃ c', (∀ W, (Instr.slice 32 (.slice (some ⟨g, 0, none⟩) n c) (some (.int .i64 (lo : Int))) (some (.int .i64 (hi : Int))) none).run Tryd.prog W = .ok (.slice (some ⟨g, lo, none⟩) (hi - lo) c') W) ∧ Rd w (.slice (some ⟨g, lo, none⟩) (hi - lo) c') ((l.drop lo).take (hi - lo)) := by
  have hrd : Rd w (.slice (some ⟨g, 0, none⟩) n c) l := by
    rw [← hl] at h ⊢
    exact Rd.own h
  obtain ⟨ao, c', hs, hr, -⟩ := hrd.mid (P := Tryd.prog) 32 5 Tryd.underlying32 (by kernel_rfl) lo hi h1 (by omega)
  have hcn : n ≤ c := by
    obtain ⟨ao', c9, e9, h9, -⟩ := hrd
    simp only [Value.slice.injEq] at e9
    omega
  have key : ao = some ⟨g, lo, none⟩ := by
    have h5 := hs w
    have ht' : Tryd.prog.underlying 32 = some (.slice (Tryd.prog.elem 32)) := by kernel_rfl
    rw [run_slice_lh w 32 _ _ _ ht' .i64 .i64 _ _ (by omega) (by omega) (by omega)] at h5
    have he : Tryd.prog.elem 32 = 5 := by kernel_rfl
    obtain ⟨i0, hi0, hz0, hz1, hz2⟩ := info_parts info_u8
    have hsz : (sizeOf 5).run Tryd.prog w = .ok 1 w := by simp [sizeOf, typeInfo, hi0, hz1]
    rw [he, hsz] at h5
    simp only [Result.andThen, sliced, Int.toNat_natCast, Result.ok.injEq, and_true, Value.slice.injEq] at h5
    rw [← h5.1, if_neg (by omega)]
    simp [Addr.add]
    omega
  subst key
  exact ⟨c', hs, hr⟩

section
variable {base : Nat} {w : World} {lb db sb n : Nat} {vw rv : Value} {S : List (List UInt8)} {Q : List Wr} {dn : Bool} {lf : Nat} {L : Ls}

/-- What record gives, where there is one. -/
def RecA (l : List UInt8) (w : World) (e : Ending) (w' : World) : Prop := ∃ g o c, e = .returned (.tuple #[.slice (some ⟨g, o, none⟩) l.length c, .nilIface]) ∧ Rd w' (.slice (some ⟨g, o, none⟩) l.length c) l ∧ w.heap.size ≤ g ∧ g < w'.heap.size ∧ Below w.heap.size w w'

def PieceS (b : List UInt8) (w : World) (e : Ending) (w' : World) : Prop := ∃ g c, e = .returned (.tuple #[.slice (some ⟨g, 0, none⟩) 56 c, .nilIface]) ∧ w'.ownsRow w.heap.size 5 1 (.slice (some ⟨g, 0, none⟩) 56 c) 56 (b.map bv) ∧ Below w.heap.size w w'
theorem piece_some (h : Lk w lb db rv L) (hD : Dk base w db sb n vw S Q false lf) (hk : L.h.Ok) (i : Nat) (hi : i ≤ 131072) (hn : 3 ≤ n) (ht : ∀ j, j ≤ 131072 → nmb n L.h j < 18446744073709551616) (b : List UInt8) (hp : pieceM S n L.h i = some b) :
    Calls Tryd.prog 55 #[.pointer (some ⟨lb, 0, none⟩), .int .i64 (i : Int)] w (PieceS b w) := by
  refine (piece_any h hD hk i hi hn ht).mono ?_
  rw [hp]
  rintro e w' ⟨hb, ⟨h1, -⟩ | ⟨b', g, c, h1, h2, h3, h4⟩⟩
  · cases h1
  · cases h1
    exact ⟨g, c, h3, h4, hb⟩

set_option maxHeartbeats 8000000 in
theorem record_some (h : Lk w lb db rv L) (hD : Dk base w db sb n vw S Q false lf) (hk : L.h.Ok) (i : Nat) (l : List UInt8) (hl : l.length ≤ 32768) (hi : i + secs l.length ≤ 131072) (hn : 3 ≤ n) (ht : ∀ j, j ≤ 131072 → nmb n L.h j < 18446744073709551616) (hp : ∀ j, j < secs l.length → pieceM S n L.h (i + j) = some (bodyP (pc (recB l) j))) :
    Calls Tryd.prog 38 #[.pointer (some ⟨lb, 0, none⟩), .int .i64 (i : Int)] w (RecA l w) := by
  have hm1 : 1 ≤ secs l.length := by unfold secs; omega
  have hsl : secs l.length * 56 < 8 + l.length + 56 ∧ 8 + l.length ≤ secs l.length * 56 := by unfold secs; omega
  obtain ⟨m, hm⟩ : ∃ m, m = secs l.length := ⟨_, rfl⟩
  rw [← hm] at hm1 hsl hi hp
  have hlp : ∀ j, (bodyP (pc (recB l) j)).length = 56 := fun j => bodyP_len (by rw [pc_len]; omega)
  have CP : Hid (∀ W k, Below w.heap.size w W → k < m → Calls Tryd.prog 55 #[.pointer (some ⟨lb, 0, none⟩), .int .i64 ((i + k : Nat) : Int)] W (PieceS (bodyP (pc (recB l) k)) W)) := hid fun W k hb hk9 => by
    have hL9 : Lk W lb db rv L := h.old hb
    exact piece_some hL9 (hD.old hb) hk (i + k) (by omega) hn ht _ (hp k hk9)
  have CP0 := CP.out w 0 (Below.refl _ _) hm1
  rw [Nat.add_zero] at CP0
  have HP0 := hid CP0
  have HLP := hid hlp
  have hgr := catP_head l hl 1 (Nat.le_refl _)
  have hz8 : IntKind.i64.wrap (l.length : Int) = (l.length : Int) := by rw [IntKind.wrap_i64]; omega
  have hz9 : IntKind.i64.wrap (8 + (l.length : Int)) = ((8 + l.length : Nat) : Int) := by rw [IntKind.wrap_i64]; omega
  have hzm : ¬ (32768 < (l.length : Int)) := by omega
  have HGR := hid hgr
  clear h hD ht hp hlp CP0 hgr hm
  go_enter Tryd.func38, Tryd.ntmps38
  go_wp2_with (first | (go_at_call 55; refine HP0.out.mono ?_))
  rintro e w2 ⟨g, c, rfl, ho, hb⟩
  have ho1 : w2.ownsRow w.heap.size 5 1 (.slice (some ⟨g, 0, none⟩) 56 c) 56 ((catP (recB l) 1).map bv) := by
    have e1 : catP (recB l) 1 = bodyP (pc (recB l) 0) := by simp [catP]
    rw [e1]
    exact ho
  have hrd1 : Rd w2 (.slice (some ⟨g, 0, none⟩) 56 c) (catP (recB l) 1) := by
    have e1 : (catP (recB l) 1).length = 56 := catP_len _ _
    have h9 := ho1
    have h8 : w2.ownsRow w.heap.size 5 1 (.slice (some ⟨g, 0, none⟩) 56 c) (catP (recB l) 1).length ((catP (recB l) 1).map bv) := by rw [e1]; exact h9
    have := Rd.own h8
    exact this
  have CG0 := great_any w2 _ _ hrd1 (by rw [catP_len]; omega)
  rw [HGR.out] at CG0
  have CG := hid CG0
  have HO1 := hid ho1
  have HB1 := hid hb
  have heq := fun W => Lib.run_eql_slice_nil (P := Tryd.prog) W 32 5 (some ⟨g, 0, none⟩) 56 c 0 0 Tryd.underlying32
  clear ho ho1 hrd1 CG0 hb
  have HB : Hid ((recB l).length = 8 + l.length) := hid (recB_len l)
  obtain ⟨z, hz⟩ : ∃ z, z = 8 + l.length := ⟨_, rfl⟩
  rw [← hz] at hz9
  have HZ := hid hz
  have hz99 : 8 + (l.length : Int) = (z : Int) := by omega
  have hsl2 : m * 56 < z + 56 ∧ z ≤ m * 56 := by omega
  clear hz
  go_wp2_with (first | (go_at_call 56; refine CG.out.mono ?_; rintro e w3 ⟨rfl, rfl⟩))
  go_loopw [6, 1] (fun b ii wr => ∃ k g c, k < m ∧ (k = 0 ∨ 56 * k < z) ∧ b = .slice (some ⟨g, 0, none⟩) (56 * (k + 1)) c ∧ ii = .int .i64 ((i + k : Nat) : Int) ∧ Hid (wr.ownsRow w.heap.size 5 1 (.slice (some ⟨g, 0, none⟩) (56 * (k + 1)) c) (56 * (k + 1)) ((catP (recB l) (k + 1)).map bv)) ∧ Hid (Below w.heap.size w wr)) (fun _ ii _ => i + m - (intOf ii).toNat)
  case atStart => exact ⟨0, g, c, hm1, .inl rfl, rfl, rfl, HO1, HB1⟩
  case round =>
    obtain ⟨k, g', c', hkm, hkz, rfl, rfl, HO, HBw⟩ := hrel
    obtain ⟨q, hq⟩ : ∃ q, q = 56 * (k + 1) := ⟨_, rfl⟩
    obtain ⟨ik, hik⟩ : ∃ ik, ik = i + k := ⟨_, rfl⟩
    rw [← hq] at HO ⊢
    rw [← hik]
    have HQ := hid hq
    have HIK := hid hik
    clear hq hik
    have hlen := fun W => run_len_slice (P := Tryd.prog) W 32 3 (some ⟨g', 0, none⟩) q c' Tryd.underlying32
    by_cases hlt : q < z
    · have hltI : (q : Int) < (z : Int) := by omega
      have hk1 : k + 1 < m := by have := HQ.out; omega
      have CPk0 := CP.out wr (k + 1) HBw.out hk1
      have e2 : i + (k + 1) = ik + 1 := by have := HIK.out; omega
      rw [e2] at CPk0
      have CPk := hid CPk0
      clear CPk0 e2
      have hi9 : IntKind.i64.wrap ((ik : Int) + 1) = ((ik + 1 : Nat) : Int) := by rw [IntKind.wrap_i64]; have := HIK.out; omega
      have HK1 := hid hk1
      clear hk1
      go_wp2_with (first | (go_at_call 55; refine CPk.out.mono ?_))
      rintro e w4 ⟨g4, c4, rfl, ho4, hb4⟩
      have hown := own_old HO.out hb4
      have hbl : (bodyP (pc (recB l) (k + 1))).length = 56 := HLP.out (k + 1)
      have hcat : catP (recB l) (k + 1 + 1) = catP (recB l) (k + 1) ++ bodyP (pc (recB l) (k + 1)) := rfl
      generalize bodyP (pc (recB l) (k + 1)) = bp at *
      have hrd4 : Rd w4 (.slice (some ⟨g4, 0, none⟩) 56 c4) bp := by
        have h8 : w4.ownsRow wr.heap.size 5 1 (.slice (some ⟨g4, 0, none⟩) 56 c4) bp.length (bp.map bv) := by rw [hbl]; exact ho4
        exact Rd.own h8
      have HBW4 : Hid (Below w.heap.size w w4) := HBw.out.trans (hb4.mono HBw.out.size)
      have HW4 : Hid (w.heap.size ≤ w4.heap.size) := HBW4.out.size
      have HCAT := hid hcat
      have HBL := hid hbl
      have heq4 := fun W => Lib.run_eql_slice_nil (P := Tryd.prog) W 32 5 (some ⟨g4, 0, none⟩) 56 c4 0 0 Tryd.underlying32
      have HG4 : Hid (∀ k, (Value.slice (some ⟨g', 0, none⟩) q c').ownBlock = some k → w.heap.size ≤ k) := hid fun k hk => (HO.out.lt k hk).1
      clear hcat hbl ho4 hb4
      go_wp2_with (first | (at_builtin; refine wp_app rfl _ _ 32 rfl w.heap.size 5 Tryd.underlying32 (by kernel_rfl) _ _ _ rfl hown _ _ rfl hrd4 ?capp1 ?capp2 ?_))
      case capp1 => have := HBL.out; have := HQ.out; omega
      case capp2 => exact HW4.out
      rintro v5 w5 ho5 hg5
      have hq5 : q + bp.length = 56 * (k + 1 + 1) := by have := HBL.out; have := HQ.out; omega
      rw [hq5] at ho5
      obtain ⟨g5, c5, rfl⟩ := own_pos ho5 (by omega)
      have HO5 : Hid (w5.ownsRow w.heap.size 5 1 (.slice (some ⟨g5, 0, none⟩) (56 * (k + 1 + 1)) c5) (56 * (k + 1 + 1)) ((catP (recB l) (k + 1 + 1)).map bv)) := by
        have h9 := HCAT.out
        rw [h9, List.map_append]
        exact ho5
      have HB5 : Hid (Below w.heap.size w w5) := HBW4.out.grown hg5 HW4.out HG4.out
      have hkz2 : 56 * (k + 1) < z := by have := HQ.out; omega
      have HKZ := hid hkz2
      clear ho5 hg5 hq5 hkz2
      go_wp2_with fail
      go_roundw
      case rel => exact ⟨k + 1, g5, c5, HK1.out, .inr HKZ.out, rfl, (by have := HIK.out; subst this; go_num), HO5, HB5⟩
      case measure => have := HIK.out; simp [intOf]; omega
    · have hltI : ¬ (q : Int) < (z : Int) := by omega
      have hHB := HB.out
      have hHZ := HZ.out
      have hHQ := HQ.out
      obtain ⟨c9, hs9, hr9⟩ := mid_own HO.out (by rw [catP_len, hHQ]) 8 z (by omega) (by omega) (by omega)
      have e8 : z - 8 = l.length := by omega
      have hmid := catP_mid l (k + 1) (fun j hj => by
        rw [hHB]
        rcases hkz with e | e
        · subst e
          have : j = 0 := by omega
          omega
        · have : 56 * j ≤ 56 * k := by omega
          omega) (by rw [hHB]; omega)
      rw [← hHZ, e8] at hmid
      rw [e8, hmid] at hr9
      rw [e8] at hs9
      have hsl9 : ∀ W, (Instr.slice 32 (.slice (some ⟨g', 0, none⟩) q c') (some (.int .i64 8)) (some (.int .i64 (z : Int))) none).run Tryd.prog W = .ok (.slice (some ⟨g', 8, none⟩) l.length c9) W := fun W => hs9 W
      have HR9 := hid hr9
      have HG9 : Hid (w.heap.size ≤ g' ∧ g' < wr.heap.size) := HO.out.lt g' rfl
      clear hr9 hs9 hmid hHB hHZ hHQ e8
      go_wp2_with fail
      go_ret2
      exact ⟨g', 8, c9, rfl, HR9.out, HG9.out.1, HG9.out.2, HBw.out⟩
end
end Go.Proofs.YtcbbklbjfknnlaaDoor
