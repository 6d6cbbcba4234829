/-
  WAL: Sync and Cut of a log whose disk is up.
-/
import Derived.Test.YtcbbklbjfknnlaaDoorWy
set_option linter.unusedVariables false
set_option maxRecDepth 100000
namespace Go.Proofs.YtcbbklbjfknnlaaDoor
open Go.RowKit
section
variable {base : Nat} {w w' : World} {lb db sb n : Nat} {vw rv : Value} {S : List (List UInt8)} {Q : List Wr} {L : Ls} {R : List Rc}

/-- What sync and Sync come to. -/
def SyncP (base : Nat) (lb db sb n : Nat) (vw rv : Value) (S : List (List UInt8)) (L : Ls) (R : List Rc) (w w' : World) : Prop :=
  ∃ vw', Lg base w' lb db sb n vw' rv S [] { h := L.h, used := L.used, ours := L.ours, waits := 0, down := L.down } R ∧ Gfr db sb lb vw vw' rv rv w w'

theorem Below.drewN9 (w : World) (m : Nat) : Below w.heap.size w (w.drewN m) := ⟨rfl, rfl, rfl, Nat.le_refl _, fun _ _ => rfl⟩

theorem sync_in (h : Lg base w lb db sb n vw rv S Q L R) (hw : L.waits = Q.length) (hd : L.down = false) : Calls Tryd.prog 30 #[.pointer (some ⟨lb, 0, none⟩)] w (fun e w' => e = .returned .nilIface ∧ SyncP base lb db sb n vw rv S L R w w') := by
  have CR := hid (ready_ok h.l h.d hw hd)
  have H := hid h
  clear h
  go_enter Tryd.func30, Tryd.ntmps30
  go_wp2_with (first | (go_at_call 26; refine CR.out.mono ?_; rintro e w2 ⟨rfl, m, rfl⟩))
  have hb := Below.drewN9 w m
  have H2 := hid (H.out.old hb)
  have HB := hid hb
  clear hb
  generalize w.drewN m = w2 at *
  have CF := hid (lflush_ok H2.out.l H2.out.d H2.out.nlb)
  go_wp2_with (first | (go_at_call 48; refine CF.out.mono ?_; rintro e w6 ⟨rfl, vw6, hD6, hL6, hn6, hF6⟩))
  obtain ⟨hG6, hfr6⟩ := H2.out.lfr hD6 hL6 hn6 hF6
  go_ret
  exact ⟨rfl, vw6, hG6, (Gfr.of_below HB.out).trans hfr6⟩

theorem sync_ok (h : Lg base w lb db sb n vw rv S Q L R) (hw : L.waits = Q.length) (hd : L.down = false) : Calls Tryd.prog 12 #[.pointer (some ⟨lb, 0, none⟩)] w (fun e w' => e = .returned (.int .i64 0) ∧ SyncP base lb db sb n vw rv S L R w w') := by
  have CN := hid (none_any h.l)
  have CS := hid (sync_in h hw hd)
  clear h
  go_enter Tryd.func12, Tryd.ntmps12
  go_wp2_with (first
    | (go_at_call 25; refine CN.out.mono ?_; rintro e w2 ⟨rfl, rfl⟩)
    | (go_at_call 30; refine CS.out.mono ?_; rintro e w3 ⟨rfl, hp⟩)
    | (go_at_call 23; refine (told_ok lb _).mono ?_; rintro e w4 ⟨rfl, rfl⟩))
  go_ret
  exact ⟨rfl, hp⟩

/-- What lay, cut and Cut come to. -/
def CutP (base : Nat) (lb db sb n : Nat) (vw rv : Value) (S : List (List UInt8)) (L : Ls) (R : List Rc) (m : Nat) (w w' : World) : Prop :=
  ∃ vw' rv', Lg base w' lb db sb n vw' rv' (S.set ((L.h.tn + 1) % 2) (hSec (nextH n L R m))) [] { h := nextH n L R m, used := L.used - gones R m, ours := true, waits := 0, down := L.down } (R.drop m) ∧ Gfr db sb lb vw vw' rv rv' w w'

theorem cut_in (h : Lg base w lb db sb n vw rv S Q L R) (hw : L.waits = Q.length) (hd : L.down = false) (m : Nat) (hm : m ≤ R.length) (hR9 : R.length ≤ 1000000) (hn : 3 ≤ n) (hg : gones R m ≤ L.used) (hu : L.used ≤ n - 2) (hk : L.h.Ok) (ht : L.h.tn + 1 < 18446744073709551616) (hf : L.h.fi + m < 18446744073709551616) (hrl : ∀ r ∈ R, r.b.length ≤ 32768) (hgm : ∀ j, j ≤ m → gones R j ≤ 65536) : Calls Tryd.prog 33 #[.pointer (some ⟨lb, 0, none⟩), .int .i64 (m : Int)] w (fun e w' => e = .returned .nilIface ∧ CutP base lb db sb n vw rv S L R m w w') := by
  have CR := hid (ready_ok h.l h.d hw hd)
  have H := hid h
  have CL : Hid (∀ W, Below w.heap.size w W → Calls Tryd.prog 42 #[.pointer (some ⟨lb, 0, none⟩), .int .i64 (m : Int)] W (fun e w' => e = .returned .nilIface ∧ CutP base lb db sb n vw rv S L R m w w')) := fun W hW => (lay_ok (H.out.old hW) m hm hR9 hn hg hu hk ht hf hrl hgm).mono fun e w' ⟨he, vw', rv', q1, q2⟩ => ⟨he, vw', rv', q1, (Gfr.of_below hW).trans q2⟩
  clear h
  go_enter Tryd.func33, Tryd.ntmps33
  go_wp2_with (first
    | (go_at_call 26; refine CR.out.mono ?_; rintro e w2 ⟨rfl, k9, rfl⟩)
    | (go_at_call 42; refine (CL.out _ (Below.drewN9 w k9)).mono ?_; rintro e w6 ⟨rfl, hp⟩))
  go_ret
  exact ⟨rfl, hp⟩

theorem cut_ok (h : Lg base w lb db sb n vw rv S Q L R) (hw : L.waits = Q.length) (hd : L.down = false) (m : Nat) (hm : m ≤ R.length) (hm0 : 0 < m) (hR9 : R.length ≤ 1000000) (hn : 3 ≤ n) (hg : gones R m ≤ L.used) (hu : L.used ≤ n - 2) (hk : L.h.Ok) (ht : L.h.tn + 1 < 18446744073709551616) (hf : L.h.fi + R.length < 18446744073709551616) (hrl : ∀ r ∈ R, r.b.length ≤ 32768) (hgm : ∀ j, j ≤ m → gones R j ≤ 65536) : Calls Tryd.prog 20 #[.pointer (some ⟨lb, 0, none⟩), .int .u64 ((L.h.fi + m : Nat) : Int)] w (fun e w' => e = .returned (.int .i64 0) ∧ CutP base lb db sb n vw rv S L R m w w') := by
  have CN := hid (none_any h.l)
  have H := hid h
  have CC : Hid (∀ W, Below w.heap.size w W → Calls Tryd.prog 33 #[.pointer (some ⟨lb, 0, none⟩), .int .i64 (m : Int)] W (fun e w' => e = .returned .nilIface ∧ CutP base lb db sb n vw rv S L R m w w')) := fun W hW => (cut_in (H.out.old hW) hw hd m hm hR9 hn hg hu hk ht (by omega) hrl hgm).mono fun e w' ⟨he, vw', rv', q1, q2⟩ => ⟨he, vw', rv', q1, (Gfr.of_below hW).trans q2⟩
  have CF : Hid (∀ W, Below w.heap.size w W → Calls Tryd.prog 16 #[.pointer (some ⟨lb, 0, none⟩)] W (fun e w' => e = .returned (.int .u64 (L.h.fi : Int)) ∧ w' = W)) := fun W hW => first_any (H.out.l.old (hW.mono (Nat.le_refl _)))
  have CX : Hid (∀ W, Below w.heap.size w W → Calls Tryd.prog 15 #[.pointer (some ⟨lb, 0, none⟩)] W (Draws W (.int .u64 ((L.h.fi + R.length : Nat) : Int)))) := fun W hW => next_any (H.out.l.old hW) R.length (by obtain ⟨ao, c, e, -⟩ := H.out.r.form; exact ⟨ao, c, e⟩) hf
  obtain ⟨a, ha⟩ : ∃ a, a = L.h.fi := ⟨_, rfl⟩
  obtain ⟨b, hb⟩ : ∃ b, b = L.h.fi + m := ⟨_, rfl⟩
  obtain ⟨c, hc⟩ : ∃ c, c = L.h.fi + R.length := ⟨_, rfl⟩
  rw [← ha] at CF
  rw [← hb]
  rw [← hc] at CX
  have h1 : ((b : Int) < (a : Int)) = False := by simp; omega
  have h1' : ¬ ((b : Int) < (a : Int)) := by omega
  have h2 : ¬ ((c : Int) < (b : Int)) := by omega
  have h3 : ¬ ((b : Int) = (a : Int)) := by omega
  have h3' : ¬ b = a := by omega
  have h3'' : ((b : Int) == (a : Int)) = false := by simp; omega
  have h4 : IntKind.u64.wrap ((b : Int) - (a : Int)) = (m : Int) := by rw [wrap_u64]; omega
  have h5 : IntKind.i64.wrap (m : Int) = (m : Int) := by rw [IntKind.wrap_i64]; omega
  clear h ha hb hc h1
  go_enter Tryd.func20, Tryd.ntmps20
  go_wp2_with (first
    | (go_at_call 25; refine CN.out.mono ?_; rintro e w2 ⟨rfl, rfl⟩)
    | (go_at_call 16; refine (CF.out _ (Below.refl _ _)).mono ?_; rintro e w3 ⟨rfl, rfl⟩)
    | (go_at_call 15; refine (CX.out _ (Below.refl _ _)).mono ?_; rintro e w3 ⟨rfl, k9, rfl⟩))
  go_wp2_with (first
    | (go_at_call 16; refine (CF.out _ (Below.drewN9 _ k9)).mono ?_; rintro e w4 ⟨rfl, rfl⟩)
    | (go_at_call 33; refine (CC.out _ (Below.drewN9 _ k9)).mono ?_; rintro e w5 ⟨rfl, hp⟩)
    | (go_at_call 23; refine (told_ok lb _).mono ?_; rintro e w6 ⟨rfl, rfl⟩))
  go_ret
  exact ⟨rfl, hp⟩
end
end Go.Proofs.YtcbbklbjfknnlaaDoor
