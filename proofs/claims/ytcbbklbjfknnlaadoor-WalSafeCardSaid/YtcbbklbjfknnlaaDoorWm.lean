/-
  WAL: Append, from what 'add' does.
-/
import Derived.Test.YtcbbklbjfknnlaaDoorWk
set_option linter.unusedVariables false
set_option maxRecDepth 100000
namespace Go.Proofs.YtcbbklbjfknnlaaDoor
open Go.RowKit

theorem append_of_add {base : Nat} {w : World} {lb db sb n : Nat} {vw rv : Value} {S : List (List UInt8)} {Q : List Wr} {L : Ls} {R : List Rc} {ao : Option Addr} {m c : Nat} (h : Lg base w lb db sb n vw rv S Q L R) (hw : L.waits = Q.length) (hd : L.down = false) (hm : m ≤ 32768) (hu : L.used ≤ 65536) (hfit : L.used + secs m ≤ n - 2) (P : World → Prop)
    (hA : ∀ W, Below w.heap.size w W → Calls Tryd.prog 29 #[.pointer (some ⟨lb, 0, none⟩), .slice ao m c] W (fun e w' => e = .returned .nilIface ∧ P w')) :
    Calls Tryd.prog 11 #[.pointer (some ⟨lb, 0, none⟩), .slice ao m c] w (fun e w' => e = .returned (.int .i64 0) ∧ P w') := by
  have hlen := fun W => run_len_slice (P := Tryd.prog) W 32 3 ao m c Tryd.underlying32
  have CN := hid (none_any h.l)
  have CR := hid (ready_ok h.l h.d hw hd)
  have H := hid h
  have HA := hid hA
  have CS : ∀ W, Calls Tryd.prog 27 #[.slice ao m c] W (fun e w' => e = .returned (.int .i64 (secs m : Int)) ∧ w' = W) := fun W => sectors_any W ao m c (by omega)
  have h1 : ¬ (32768 < (m : Int)) := by omega
  have hD9 := h.d.few.2.1
  have hs9 : secs m ≤ 65536 := by omega
  clear h hA
  go_enter Tryd.func11, Tryd.ntmps11
  go_wp2_with (first
    | (go_at_call 25; refine CN.out.mono ?_; rintro e w2 ⟨rfl, rfl⟩)
    | (go_at_call 26; refine CR.out.mono ?_; rintro e w3 ⟨rfl, k9, rfl⟩)
    | (go_at_call 23; refine (told_ok lb _).mono ?_; rintro e w4 ⟨rfl, rfl⟩))
  have hb := Below.drewN9 w2 k9
  have H5 := hid (H.out.old hb)
  have HB5 := hid hb
  clear hb
  generalize w2.drewN k9 = w5 at *
  obtain ⟨c0, c1, c2, c3, c4, c5, c6, -⟩ := H5.out.l.cells
  have CS5 : ∀ a, Calls Tryd.prog 27 #[.slice ao m c] (w5.drewN a) (fun e w' => e = .returned (.int .i64 (secs m : Int)) ∧ ∃ k, w' = w5.drewN k) := fun a => (CS _).mono fun _ _ h => ⟨h.1, a, h.2⟩
  have CG5 : ∀ a, Calls Tryd.prog 28 #[.pointer (some ⟨lb, 0, none⟩)] (w5.drewN a) (fun e w' => e = .returned (.int .i64 ((n - 2 : Nat) : Int)) ∧ ∃ k, w' = w5.drewN k) := fun a => (ring_any (H5.out.l.old (Below.drewN9 w5 a)) (H5.out.d.old (Below.drewN9 w5 a))).mono fun _ _ h => ⟨h.1, a, h.2⟩
  obtain ⟨rg, hrg⟩ : ∃ rg, rg = n - 2 := ⟨_, rfl⟩
  obtain ⟨u, hu9⟩ : ∃ u, u = L.used := ⟨_, rfl⟩
  obtain ⟨s, hs⟩ : ∃ s, s = secs m := ⟨_, rfl⟩
  rw [← hrg] at CG5 hfit
  rw [← hs] at CS5 hfit hs9
  rw [← hu9] at c6 hfit hu
  have h2 : IntKind.i64.wrap ((u : Int) + (s : Int)) = (u : Int) + (s : Int) := by rw [IntKind.wrap_i64]; omega
  have h3 : ¬ ((rg : Int) < (u : Int) + (s : Int)) := by omega
  have h4 : (u : Int) + (s : Int) ≤ (rg : Int) := by omega
  clear hrg hu9 hs CS c0 c1 c2 c3 c4 c5 hfit
  go_upto_region 8 with fail
  go_quiet (first | (go_at_call 27; exact CS5 _) | (go_at_call 28; exact CG5 _))
  have hb : Below w2.heap.size w2 (w5.drewN nq) := HB5.out.trans ((Below.drewN9 w5 nq).mono HB5.out.size)
  have HAq := hid (HA.out _ hb)
  clear hb
  generalize w5.drewN nq = w6 at *
  go_wp2_with (first
    | (go_at_call 29; refine HAq.out.mono ?_; rintro e w7 ⟨rfl, hp⟩)
    | (go_at_call 23; refine (told_ok lb _).mono ?_; rintro e w8 ⟨rfl, rfl⟩))
  go_ret
  exact ⟨rfl, hp⟩
end Go.Proofs.YtcbbklbjfknnlaaDoor
