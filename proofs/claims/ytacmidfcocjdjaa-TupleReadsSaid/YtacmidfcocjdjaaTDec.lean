/-
  THE CODE's DEC.
-/
import Derived.Test.YtacmidfcocjdjaaTTake2
import Derived.Test.YtacmidfcocjdjaaTOwnV
namespace Go.Proofs.Ytacmidfcocjdjaa
open Go.RowKit

theorem rdV_ok {b : List UInt8} (hb : b ≠ []) (h : (rdV b).2.2 = 0) : 1 ≤ (rdV b).2.1 ∧ (rdV b).2.1 ≤ b.length := by
  cases b with
  | nil => exact absurd rfl hb
  | cons c r =>
    rw [rdV_cons] at h ⊢
    by_cases h1 : c = 1
    · rw [if_pos h1]; simp
    · rw [if_neg h1] at h ⊢
      by_cases h2 : c = 2
      · rw [if_pos h2] at h ⊢
        by_cases h8 : r.length < 8
        · rw [if_pos h8] at h; simp at h
        · rw [if_neg h8]; simp; omega
      · rw [if_neg h2] at h ⊢
        by_cases h3 : c = 3
        · rw [if_pos h3]
          have := rdT_le r [] 0
          simp only [List.length_cons]
          omega
        · rw [if_neg h3] at h; simp at h

/-- Why bytes are no values, or 0; the values; how many bytes. -/
def decE (l : List UInt8) : Int := if (decA [] l).2 = 0 then (if 16 < (decA [] l).1.length then 10 else 0) else (decA [] l).2
def decO (l : List UInt8) : List Vl := if decE l = 0 then (decA [] l).1 else []
def decN (l : List UInt8) : Nat := if decE l = 0 then l.length else 0

theorem dec_err {l : List UInt8} {e : Int} {x : List Vl} (h : decA [] l = (x, e)) (he : e ≠ 0) : decE l = e ∧ decO l = [] ∧ decN l = 0 := by
  have h1 : decE l = e := by unfold decE; rw [h, if_neg he]
  exact ⟨h1, by unfold decO; rw [h1, if_neg he], by unfold decN; rw [h1, if_neg he]⟩

theorem dec_long {l : List UInt8} {x : List Vl} (h : decA [] l = (x, 0)) (hl : 16 < x.length) : decE l = 10 ∧ decO l = [] ∧ decN l = 0 := by
  have h1 : decE l = 10 := by unfold decE; rw [h, if_pos rfl, if_pos hl]
  exact ⟨h1, by unfold decO; rw [h1, if_neg (by decide)], by unfold decN; rw [h1, if_neg (by decide)]⟩

theorem dec_ok {l : List UInt8} {x : List Vl} (h : decA [] l = (x, 0)) (hl : ¬ 16 < x.length) : decE l = 0 ∧ decO l = x ∧ decN l = l.length := by
  have h1 : decE l = 0 := by unfold decE; rw [h, if_pos rfl, if_neg hl]
  exact ⟨h1, by unfold decO; rw [h1, if_pos rfl, h], by unfold decN; rw [h1, if_pos rfl]⟩

/-- What Dec gives. -/
def DecIs (l : List UInt8) (w : World) (e : Ending) (w' : World) : Prop :=
  ∃ y, e = .returned (.tuple #[y, .int .i64 (decN l : Nat), .int .i64 (decE l)]) ∧ w'.ownsRow w.heap.size 24 3 y (decO l).length (cellsL (decO l)) ∧ Below w.heap.size w w'

theorem DecIs.elim {l : List UInt8} {w : World} {e : Ending} {w' : World} (h : DecIs l w e w') : ∃ (ao : Option Addr) (c : Nat), e = .returned (.tuple #[.slice ao (decO l).length c, .int .i64 (decN l : Nat), .int .i64 (decE l)]) ∧ w'.ownsRow w.heap.size 24 3 (.slice ao (decO l).length c) (decO l).length (cellsL (decO l)) ∧ Below w.heap.size w w' := by
  obtain ⟨y, rfl, h1, h2⟩ := h
  obtain ⟨ao, c, rfl, _⟩ := Vs.own h1
  exact ⟨ao, c, rfl, h1, h2⟩

theorem vown_old {w w' : World} {base : Nat} {v : Value} {n : Nat} {xs : List Value} (h : w.ownsRow base 24 3 v n xs) (hb : Below w.heap.size w w') : w'.ownsRow base 24 3 v n xs := own_old h hb

theorem vown_below {w w1 : World} {base n : Nat} {x : Value} {xs : List Value} (hown : w.ownsRow base 24 3 x n xs) (hb : base ≤ w.heap.size) {o : Obj} (hg : (w.alloc o).grownBy w1 x.ownBlock) : Below base w w1 :=
  ((Below.refl base w).alloc hb o).grown hg (by simp; omega) (fun k hk => (hown.lt k hk).1)

set_option maxHeartbeats 4000000 in
set_option maxRecDepth 100000 in
theorem dec_any (x : Value) (l : List UInt8) (w : World) (hx : Rd w x l) (hl : l.length ≤ 900000) :
    Calls Try.prog 19 #[x] w (DecIs l w) := by
  obtain ⟨ao, c, rfl, -⟩ := id hx
  have hlen := hx.len (P := Try.prog) 27 5
  have HX := hid hx
  clear hx
  go_enter Try.func19, Try.ntmps19
  go_wp2_with fail
  go_loopw [5, 6, 7] (fun y n i wr => ∃ (k : Nat) (acc : List Vl), k ≤ l.length ∧ i = .int .i64 (k : Int) ∧ n = .int .i64 (acc.length : Int) ∧ acc.length ≤ k ∧ decA acc (l.drop k) = decA [] l ∧ wr.ownsRow w.heap.size 24 3 y (acc.take 16).length (cellsL (acc.take 16)) ∧ Below w.heap.size w wr) (fun _ _ i _ => l.length - (intOf i).toNat)
  case atStart => exact ⟨0, [], by omega, rfl, rfl, by simp, rfl, World.ownsRow_nil _ _ _ _, Below.refl _ _⟩
  case round =>
    obtain ⟨k, acc, hk, rfl, rfl, hak, hdec, hown, hb⟩ := hrel
    have HB := hid hb
    have HD := hid hdec
    have HO := hid hown
    clear hb hdec hown
    by_cases hlt : k < l.length
    · obtain ⟨ao2, c2, hs2, hr2, -⟩ := (HX.out.old HB.out).cut (P := Try.prog) 27 5 Try.underlying27 (by kernel_rfl) k (by omega)
      have hne : l.drop k ≠ [] := by intro e; have := congrArg List.length e; simp at this; omega
      have C := take_any _ _ wr hr2 hne
      have HOK := hid (fun h => rdV_ok hne h)
      have HST := hid (fun v n (h : rdV (l.drop k) = (v, n, 0)) (hn : 1 ≤ n) => decA_step (acc := acc) hne h hn)
      have HER := hid (fun e (h : (rdV (l.drop k)).2.2 = e) (h0 : e ≠ 0) => decA_err (acc := acc) hne h h0)
      have hdl : (l.drop k).length = l.length - k := List.length_drop
      unfold takeR at C
      generalize rdV (l.drop k) = t at *
      obtain ⟨v, n, e⟩ := t
      simp only at C
      have HDL := hid hdl
      unfold sv at C
      clear hr2 hne hdl
      go_wp2_with (first | (go_at_call 33; refine C.mono ?_))
      rintro e1 w2 ⟨rfl, hb2⟩
      have hown2 := vown_old HO.out hb2
      have HB2 := hid (HB.out.trans (hb2.mono HB.out.size))
      have HQ : Hid (w.heap.size ≤ w2.heap.size) := HB2.out.size
      clear C hb2 HO
      by_cases he : e = 0
      · subst he
        obtain ⟨hn1, hn2⟩ := HOK.out rfl
        have hn1 : 1 ≤ n := hn1
        have hn2 : n ≤ (l.drop k).length := hn2
        have hn3 : k + n ≤ l.length := by have := HDL.out; omega
        have he1 := (HST.out v n rfl hn1).symm.trans HD.out
        rw [List.drop_drop] at he1
        have HE := hid he1
        have hal : (acc ++ [v]).length = acc.length + 1 := by simp
        have HAL := hid hal
        have B1 := HB2.out.alloc HB2.out.size (.cells #[.int .i64 v.k, .int .i64 v.i, .string ⟨v.s.toArray⟩] 24)
        have HB3 := hid B1
        clear he1 hal B1 HST HER HOK
        by_cases h16 : acc.length < 16
        · have HT : Hid ((acc ++ [v]).take 16 = acc.take 16 ++ [v]) := by
            show _ = _
            rw [List.take_of_length_le (by simp; omega), List.take_of_length_le (by omega)]
          have hao := hown2.alloc (.cells #[.int .i64 v.k, .int .i64 v.i, .string ⟨v.s.toArray⟩] 24)
          have hao2 := hao.alloc (.cells #[.int .i64 v.k, .int .i64 v.i, .string ⟨v.s.toArray⟩] 24)
          have HSZ : Hid ((w2.alloc (.cells #[.int .i64 v.k, .int .i64 v.i, .string ⟨v.s.toArray⟩] 24)).heap.size = w2.heap.size + 1) := by simp [Hid]
          have hv1 : Vs ((w2.alloc (.cells #[.int .i64 v.k, .int .i64 v.i, .string ⟨v.s.toArray⟩] 24)).alloc (.cells #[.int .i64 v.k, .int .i64 v.i, .string ⟨v.s.toArray⟩] 24)) (.slice (some ⟨w2.heap.size + 1, 0, none⟩) 1 1) [v] := by
            refine Vs.one (t := 24) ?_
            rw [← HSZ.out]; exact heap_alloc_new _ _
          have htl : (acc.take 16).length = acc.length := by rw [List.length_take]; omega
          have HTL := hid htl
          have HAO := hid hao
          have HAO2 := hid hao2
          have HV1 := hid hv1
          clear htl hao hao2 hv1 hown2
          go_wp2_with (first
            | (at_builtin; refine wp_vapp rfl _ _ 22 rfl w.heap.size 24 Try.underlying22 _ info_val (by decide) _ _ _ rfl HAO2.out _ [v] rfl HV1.out ?c1 ?c2 ?_))
          case c1 => rw [HTL.out]; simp; omega
          case c2 => have := HQ.out; simp; omega
          intro x4 w4 o4 g4
          have HB4 := hid (HB3.out.trans (vown_below HAO.out HB3.out.size g4))
          have HO4 := hid o4
          clear o4 g4
          go_wp2_with fail
          go_roundw
          case rel => exact ⟨k + n, acc ++ [v], by omega, by go_num, by rw [HAL.out]; go_num, by rw [HAL.out]; omega, HE.out, by rw [HT.out, List.length_append, cellsL_app, List.length_take]; exact HO4.out, HB4.out⟩
          case measure => simp [intOf]; omega
        · have HT : Hid ((acc ++ [v]).take 16 = acc.take 16) := by
            show _ = _
            rw [List.take_append_of_le_length (by omega)]
          have HAO := hid (hown2.alloc (.cells #[.int .i64 v.k, .int .i64 v.i, .string ⟨v.s.toArray⟩] 24))
          clear hown2
          go_wp2_with fail
          go_roundw
          case rel => exact ⟨k + n, acc ++ [v], by omega, by go_num, by rw [HAL.out]; go_num, by rw [HAL.out]; omega, HE.out, by rw [HT.out]; exact HAO.out, HB3.out⟩
          case measure => simp [intOf]; omega
      · have HE := hid (dec_err (HD.out.symm.trans (HER.out e rfl he)) he)
        have he' : ¬ (e == 0) = true := by simp [he]
        go_wp2_with fail
        go_ret3
        obtain ⟨h1, h2, h3⟩ := HE.out
        unfold DecIs
        rw [h1, h2, h3]
        exact ⟨_, rfl, World.ownsRow_nil _ _ _ _, HB2.out.alloc HB2.out.size _⟩
    · obtain rfl : k = l.length := by omega
      have HF : Hid (decA [] l = (acc, 0)) := by show _ = _; rw [← HD.out, List.drop_length, decA_nil]
      by_cases h16 : 16 < acc.length
      · have HE := hid (dec_long HF.out h16)
        go_wp2_with fail
        go_ret3
        obtain ⟨h1, h2, h3⟩ := HE.out
        unfold DecIs
        rw [h1, h2, h3]
        exact ⟨_, rfl, World.ownsRow_nil _ _ _ _, HB.out⟩
      · have HE := hid (dec_ok HF.out h16)
        go_wp2_with fail
        go_ret3
        obtain ⟨h1, h2, h3⟩ := HE.out
        unfold DecIs
        rw [h1, h2, h3]
        have := HO.out
        rw [List.take_of_length_le (by omega)] at this
        exact ⟨_, rfl, this, HB.out⟩
end Go.Proofs.Ytacmidfcocjdjaa
