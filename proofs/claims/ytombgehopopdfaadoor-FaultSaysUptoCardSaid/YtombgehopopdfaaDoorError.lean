/-
  (*Fault).Error.
-/
import Derived.Test.YtombgehopopdfaaDoorText
import Derived.Test.YtombgehopopdfaaDoorBuilder
set_option linter.unusedVariables false
namespace Go.Proofs.YtombgehopopdfaaDoor
open Go.RowKit Go.Extern.Stop Go.Stop Go.Extern

/-- What is said, one behind the other. -/
def lineL : List ByteArray → List UInt8
  | [] => []
  | s :: r => s.data.toList ++ [58, 32] ++ lineL r
def endL : End → List UInt8
  | .code n => (errText n).data.toList
  | .text s => s.data.toList

/-- The text of a chain. -/
def textL (l : List ByteArray) (d : End) : List UInt8 := lineL l ++ endL d

/-- Where the faults go on: the fault itself, or nothing any more. -/
def At (w : World) (d : End) (T : List UInt8) (done : List UInt8) (x : Value) : Prop :=
  (x = .pointer none ∧ done = T) ∨ ∃ s r b, x = .pointer (some ⟨b, 0, none⟩) ∧ Chain w (s :: r) d (.iface 43 x) ∧ done ++ textL (s :: r) d = T

def rkp : Value → Nat
  | .pointer (some a) => a.block + 1
  | _ => 0

theorem sz (s : ByteArray) : s.size = s.data.toList.length := rfl
theorem strCells_byte (s : ByteArray) : Lib.strCells s = Lib.byteCells s.data.toList := rfl

set_option maxHeartbeats 4000000 in
set_option maxRecDepth 100000 in
theorem merror_any (w : World) (l : List ByteArray) (d : End) (b : Nat) (hc : Chain w l d (.iface 43 (.pointer (some ⟨b, 0, none⟩)))) (h0 : 0 < w.heap.size) (hs : (textL l d).length ≤ 140737488355328) :
    Calls Tryd.prog 25 #[.pointer (some ⟨b, 0, none⟩)] w fun e w' => e = .returned (.string ⟨(textL l d).toArray⟩) ∧ Below w.heap.size w w' := by
  have HS := hid hs
  have H0 := hid h0
  obtain ⟨s, r, rfl⟩ : ∃ s r, l = s :: r := by
    cases l with
    | nil => cases d with
      | code n => cases hc
      | text x => obtain ⟨_, he, _⟩ := hc; cases he
    | cons s r => exact ⟨s, r, rfl⟩
  have HA : Hid (At w d (textL (s :: r) d) [] (.pointer (some ⟨b, 0, none⟩))) := .inr ⟨s, r, b, rfl, hc, rfl⟩
  clear hc h0 hs
  generalize hT : textL (s :: r) d = T at *
  clear hT
  go_enter Tryd.func25, Tryd.ntmps25
  go_wp2_with fail
  go_loopw [0] (fun x wr => ∃ done : List UInt8, Lib.IsBuilder 78 5 w.heap.size w.heap.size (Lib.byteCells done) wr ∧ Below w.heap.size w wr ∧ At w d T done x) (fun x _ => rkp x)
  case atStart => exact ⟨[], Lib.fresh_isBuilder 78 5 w, (Below.refl _ _).alloc (Nat.le_refl _) _, HA.out⟩
  case round =>
    obtain ⟨done, hB, hbw, hat⟩ := hrel
    have HI := hid hB
    have HW := hid hbw
    clear hB hbw
    rcases hat with ⟨rfl, hd⟩ | ⟨s, r, b, rfl, hch, hT⟩
    · subst hd
      go_wp2_with (first | (go_at_call 35; refine (bstring_any w.heap.size w.heap.size done _ HI.out HW.out.size).mono ?_))
      rintro e w1 ⟨rfl, h1⟩
      have H1 := hid h1
      clear h1
      go_wp2
      go_ret
      exact ⟨rfl, HW.out.trans H1.out⟩
    · have HT := hid hT
      clear hT
      obtain ⟨b', c, he, hb, hrk, hr⟩ := hch
      simp only [Value.iface.injEq, Value.pointer.injEq, Option.some.injEq, Addr.mk.injEq, and_true, true_and] at he
      subst he
      have hbs := hb
      have HWs := HW.out.size
      have keep : ∀ W' : World, Below w.heap.size w W' → W'.cell? ⟨b, 0, none⟩ = some (.string s) ∧ W'.cell? ⟨b, 1, none⟩ = some c := fun W' h => by
        rw [h.cell (p := ⟨b, 0, none⟩) (lt_of_block hbs), h.cell (p := ⟨b, 1, none⟩) (lt_of_block hbs)]
        simp [World.cell?, hbs]
      have HKeep := hid keep
      have HLen : Hid (done.length + s.data.toList.length + 2 + (textL r d).length ≤ 140737488355328) := by
        have h1 := congrArg List.length HT.out
        have h2 := HS.out
        simp [textL, lineL] at h1 ⊢
        unfold Hid
        omega
      have hsz : s.size = s.data.toList.length := sz s
      have HSz := hid hsz
      have f0 := (keep _ HW.out).1
      have HRk := hid hrk
      have HCh := hid hr
      clear keep hbs hb hrk hr hsz HWs
      have iC := itC
      have iF := itF
      have iS := itS
      go_wp2_with (first | (go_at_call 33; refine (bwrite_any w.heap.size w.heap.size _ s _ HI.out ?_ HW.out.size).mono ?_))
      · have := HLen.out; have := HSz.out; rw [Lib.byteCells_length]; omega
      rintro e w1 ⟨rfl, h1, hb1⟩
      rw [strCells_byte, ← Lib.byteCells_append] at h1
      have HI1 := hid h1
      have HW1 := hid (HW.out.trans hb1)
      clear h1 hb1
      go_wp2_with (first | (go_at_call 33; refine (bwrite_any w.heap.size w.heap.size _ _ _ HI1.out ?_ HW1.out.size).mono ?_))
      · have := HLen.out; rw [Lib.byteCells_length, List.length_append]; change _ + 2 ≤ _; omega
      rintro e w2 ⟨rfl, h2, hb2⟩
      rw [strCells_byte, ← Lib.byteCells_append] at h2
      have HI2 := hid h2
      have HW2 := hid (HW1.out.trans hb2)
      clear h2 hb2
      have g1 := (HKeep.out _ HW2.out).2
      cases r with
      | cons s2 r2 =>
        have HCh2 := HCh.out
        obtain ⟨b2, c2, rfl, -, -, -⟩ := HCh2
        go_wp2_with go_in
        go_roundw
        case rel =>
          refine ⟨_, HI2.out, HW2.out, .inr ⟨s2, r2, b2, rfl, HCh.out, ?_⟩⟩
          rw [← HT.out]
          simp [textL, lineL]
        case measure => have := HRk.out; simp only [rk, rkp] at this ⊢; omega
      | nil =>
        cases d with
        | code n =>
          obtain rfl : c = .iface 22 (.int .i64 n) := HCh.out
          have mE := methodErrorC
          go_wp2_with (first
            | (go_at_call 26; refine (nerror_any n _).mono ?_)
            | (go_at_call 34; go_in))
          rintro e w3 ⟨rfl, hb3⟩
          have HI3 := hid (isBuilder_old HI2.out hb3)
          have HW3 := hid (HW2.out.trans (hb3.mono HW2.out.size))
          clear hb3
          go_wp2_with (first | (go_at_call 33; refine (bwrite_any w.heap.size w.heap.size _ _ _ HI3.out ?_ HW3.out.size).mono ?_))
          · have := HLen.out; have h2 : (textL [] (.code n)).length = (errText n).data.toList.length := rfl; rw [Lib.byteCells_length, List.length_append, List.length_append, sz (errText n)]; change _ + _ + 2 + _ ≤ _; omega
          rintro e w4 ⟨rfl, h4, hb4⟩
          rw [strCells_byte, ← Lib.byteCells_append] at h4
          have HI4 := hid h4
          have HW4 := hid (HW3.out.trans hb4)
          clear h4 hb4
          go_wp2
          go_roundw
          case rel =>
            refine ⟨_, HI4.out, HW4.out, .inl ⟨rfl, ?_⟩⟩
            rw [← HT.out]
            simp [textL, lineL, endL]
          case measure => simp only [rkp]; omega
        | text x =>
          obtain ⟨bx, hcx, hbx⟩ := HCh.out
          subst hcx
          have HX := hid (HW2.out.block bx (lt_of_block hbx))
          have hbx2 : w2.heap[bx]? = some (.cells #[.string x] 72 (0, 0)) := by rw [HX.out]; exact hbx
          have HBx := hid hbx2
          clear hbx hbx2
          have mE := methodErrorS
          go_wp2_with (first
            | (go_at_call 60; refine (serror_any bx x _ HBx.out).mono ?_)
            | (go_at_call 34; go_in))
          rintro e w3 ⟨rfl, rfl⟩
          go_wp2_with (first | (go_at_call 33; refine (bwrite_any w.heap.size w.heap.size _ _ _ HI2.out ?_ HW2.out.size).mono ?_))
          · have := HLen.out; have h2 : (textL [] (.text x)).length = x.data.toList.length := rfl; rw [Lib.byteCells_length, List.length_append, List.length_append, sz x]; change _ + _ + 2 + _ ≤ _; omega
          rintro e w4 ⟨rfl, h4, hb4⟩
          rw [strCells_byte, ← Lib.byteCells_append] at h4
          have HI4 := hid h4
          have HW4 := hid (HW2.out.trans hb4)
          clear h4 hb4
          go_wp2
          go_roundw
          case rel =>
            refine ⟨_, HI4.out, HW4.out, .inl ⟨rfl, ?_⟩⟩
            rw [← HT.out]
            simp [textL, lineL, endL]
          case measure => simp only [rkp]; omega
end Go.Proofs.YtombgehopopdfaaDoor
