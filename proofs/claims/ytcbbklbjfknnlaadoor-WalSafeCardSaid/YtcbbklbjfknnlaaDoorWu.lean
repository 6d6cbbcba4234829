/-
  WAL: add, what stands behind the head's being laid, and what it all comes to.
-/
import Derived.Test.YtcbbklbjfknnlaaDoorWn
set_option linter.unusedVariables false
set_option maxRecDepth 100000
namespace Go.Proofs.YtcbbklbjfknnlaaDoor
open Go.RowKit

/-- The head that add writes behind; the sectors then; how many writes wait then. -/
def hdA (n : Nat) (L : Ls) (R : List Rc) : Hd := if L.ours = true then L.h else nextH n L R 0
def sA (n : Nat) (L : Ls) (R : List Rc) (S : List (List UInt8)) : List (List UInt8) := if L.ours = true then S else S.set ((L.h.tn + 1) % 2) (hSec (nextH n L R 0))
def qA (L : Ls) (Q : List Wr) : Nat := if L.ours = true then Q.length else 0
def qB (L : Ls) (Q : List Wr) : List Wr := if L.ours = true then Q else []
theorem qB_len (L : Ls) (Q : List Wr) : (qB L Q).length = qA L Q := by
  unfold qB qA
  split <;> rfl

/-- What add comes to. -/
def AddP (base lb db sb n : Nat) (vw rv : Value) (S : List (List UInt8)) (Q : List Wr) (L : Ls) (R : List Rc) (l : List UInt8) (w w' : World) : Prop :=
  ∃ vw' rv' Q' r, r.b = l ∧ (∀ a, r.a = some a → w.heap.size ≤ a.block) ∧ Lg base w' lb db sb n vw' rv' (addS n (hdA n L R) L.used (recB l) (sA n L R S) (secs l.length)) Q' { h := hdA n L R, used := L.used + secs l.length, ours := true, waits := Q'.length, down := L.down } (R ++ [r]) ∧ Q' = qB L Q ++ addQ n (hdA n L R) L.used (recB l) (sA n L R S) (secs l.length) ∧ Gfr db sb lb vw vw' rv rv' w w'

/-- The log behind the head's being laid. -/
def AddH (base lb db sb n : Nat) (R : List Rc) (x : Value) (l : List UInt8) (PP : World → Prop) (A : Nat) (V : World) : Prop :=
  ∃ vw rv S Q L, Lg base V lb db sb n vw rv S Q L R ∧ L.ours = true ∧ L.waits = Q.length ∧ L.h.Ok ∧ L.used + secs l.length ≤ n - 2 ∧ Q.length ≤ 90000 ∧ L.h.su ≤ L.used ∧ (∀ i, i ≤ 131072 → nmb n L.h i < 18446744073709551616) ∧ (∀ k, GL db sb vw lb rv k → k < V.heap.size ∧ k ≠ A ∧ k ≠ A + 1) ∧ (l ≠ [] → ∀ k, blk x = some k → ¬ GL db sb vw lb rv k ∧ k < A) ∧ Rd V x l ∧ V.heap[A]? = some (.cells #[.pointer (some ⟨lb, 0, none⟩)] 28 (0, 0)) ∧ V.heap[A + 1]? = some (.cells #[.nilIface] 60 (0, 0)) ∧
    Hid (∀ vw5 rv5 Q5 r wE, r.b = l → (∀ a, r.a = some a → V.heap.size ≤ a.block) → Lg base wE lb db sb n vw5 rv5 (addS n L.h L.used (recB l) S (secs l.length)) Q5 { h := L.h, used := L.used + secs l.length, ours := true, waits := Q5.length, down := L.down } (R ++ [r]) → Q5 = Q ++ addQ n L.h L.used (recB l) S (secs l.length) → Keep (fun k => GL db sb vw lb rv k ∨ k = A + 1) V wE → (∀ k, GL db sb vw5 lb rv5 k → GL db sb vw lb rv k ∨ V.heap.size ≤ k) → PP wE)

section
variable {base : Nat} {w w1 V : World} {lb db sb n : Nat} {vw rv vw1 rv1 : Value} {S : List (List UInt8)} {Q Q1 : List Wr} {L : Ls} {R : List Rc} {x : Value} {l : List UInt8} {PP : World → Prop}

theorem nextH_ok (h : Lg base w lb db sb n vw rv S Q L R) (hn : 3 ≤ n) (hk : L.h.Ok) (ht : L.h.tn + 1 < 18446744073709551616) (hu : L.used ≤ n - 2) : (nextH n L R 0).Ok ∧ (nextH n L R 0).su = L.used := by
  have h9 := h.d.few.2.1
  have h0 : gones R 0 = 0 := by unfold gones; simp
  have hm := Nat.mod_lt (L.h.fr + gones R 0) (show 0 < n - 2 by omega)
  refine ⟨⟨ht, hk.fi, ?_, ?_⟩, ?_⟩
  · show (L.h.fr + gones R 0) % (n - 2) ≤ 65536
    omega
  · show L.used - gones R 0 ≤ 65536
    omega
  · show L.used - gones R 0 = L.used
    omega

/-- What add's law asks. -/
structure AddC (base : Nat) (w : World) (lb db sb n : Nat) (vw rv : Value) (S : List (List UInt8)) (Q : List Wr) (L : Ls) (R : List Rc) (x : Value) (l : List UInt8) : Prop where
  hw : L.waits = Q.length
  hl : l.length ≤ 32768
  hn : 3 ≤ n
  hk : L.h.Ok
  ht : L.ours = false → L.h.tn + 1 < 18446744073709551616
  hfit : L.used + secs l.length ≤ n - 2
  hQ : Q.length ≤ 90000
  hsu : L.ours = true → L.h.su ≤ L.used
  hnm : ∀ i, i ≤ 131072 → nmb n (hdA n L R) i < 18446744073709551616
  hxo : l ≠ [] → ∀ k, blk x = some k → ¬ GL db sb vw lb rv k
  hR : R.length + 1 ≤ 1000000
  hrl : ∀ r ∈ R, r.b.length ≤ 32768

theorem addH_of (h : Lg base w lb db sb n vw rv S Q L R) (hc : AddC base w lb db sb n vw rv S Q L R x l) (hx : Rd w x l) (hb : Below w.heap.size w w1)
    (hP : ∀ w', AddP base lb db sb n vw rv S Q L R l w w' → PP w')
    (ha1 : w1.heap[w.heap.size]? = some (.cells #[.pointer (some ⟨lb, 0, none⟩)] 28 (0, 0))) (ha2 : w1.heap[w.heap.size + 1]? = some (.cells #[.nilIface] 60 (0, 0)))
    (hV : Lg base V lb db sb n vw1 rv1 (sA n L R S) Q1 { h := hdA n L R, used := L.used, ours := true, waits := Q1.length, down := L.down } R) (hq : Q1 = qB L Q) (hg : Gfr db sb lb vw vw1 rv rv1 w1 V) :
    AddH base lb db sb n R x l PP w.heap.size V := by
  have hlt := fun k hk => (h.lt k hk).2
  have hs1 := lt_of_block ha2
  have hno : ∀ k, w.heap.size ≤ k → ¬ GL db sb vw lb rv k := fun k hk e => by have := hlt k e; omega
  have hq9 : Q1.length ≤ 90000 := by
    rw [hq, qB_len]
    unfold qA
    split
    · exact hc.hQ
    · omega
  have hok : (hdA n L R).Ok ∧ (hdA n L R).su ≤ L.used := by
    unfold hdA
    split
    · rename_i ho
      exact ⟨hc.hk, hc.hsu ho⟩
    · rename_i ho
      have := nextH_ok h hc.hn hc.hk (hc.ht (by simpa using ho)) (by have := hc.hfit; omega)
      exact ⟨this.1, Nat.le_of_eq this.2⟩
  have hxb : l ≠ [] → ∀ k, blk x = some k → k < w.heap.size := fun hne k hk => by
    obtain ⟨ao, c, rfl, -⟩ := id hx
    obtain ⟨a, ha, hak⟩ := blk_of hk
    rw [← hak]
    exact rd_block hx hne a ha
  refine ⟨vw1, rv1, sA n L R S, Q1, _, hV, rfl, rfl, hok.1, hc.hfit, hq9, hok.2, hc.hnm, fun k hk => ⟨(hV.lt k hk).2, ?_, ?_⟩, fun hne k hk => ⟨fun e => ?_, hxb hne k hk⟩, ?_, (hg.keep.block _ (by omega) (hno _ (Nat.le_refl _))).trans ha1, (hg.keep.block _ (by omega) (hno _ (by omega))).trans ha2, hid fun vw5 rv5 Q5 r wE q1 q0 q2 q3 q4 q5 => hP _ ⟨vw5, rv5, Q5, r, q1, fun a ha => Nat.le_trans (Nat.le_trans hb.size hg.keep.size) (q0 a ha), q2, by rw [q3, hq], ?_⟩⟩
  · rcases hg.new k hk with e | e
    · have := hlt k e; omega
    · omega
  · rcases hg.new k hk with e | e
    · have := hlt k e; omega
    · omega
  · rcases hg.new k e with e | e
    · exact hc.hxo hne k hk e
    · have := hxb hne k hk; omega
  · exact (hx.old hb).keep hg.keep (fun hne k hk e => hc.hxo hne k hk e)
  · have g1 : Gfr db sb lb vw vw1 rv rv1 w V := (Gfr.of_below hb).trans hg
    refine ⟨⟨q4.os.trans g1.keep.os, q4.tape.trans g1.keep.tape, q4.output.trans g1.keep.output, Nat.le_trans g1.keep.size q4.size, fun k hk hn9 => ?_⟩, fun k hk => ?_⟩
    · refine (q4.block k (Nat.lt_of_lt_of_le hk g1.keep.size) ?_).trans (g1.keep.block k hk hn9)
      rintro (e | e)
      · rcases g1.new k e with e | e
        · exact hn9 e
        · omega
      · omega
    · rcases q5 k hk with e | e
      · exact g1.new k e
      · exact .inr (Nat.le_trans g1.keep.size e)

/-- The end: the result's cell is written, and the rounds' deferred calls are taken. -/
theorem addE {rv5 vw5 : Value} {S5 : List (List UInt8)} {Q5 : List Wr} {L5 : Ls} {R5 : List Rc} {W Z : World} {A D : Nat} (hW : Lg base W lb db sb n vw5 rv S Q L R) (hZ : Lg base Z lb db sb n vw5 rv5 S5 Q5 L5 R5) (hg : Gfr db sb lb vw5 vw5 rv rv5 W Z) (hA : A < W.heap.size) (hAn : ¬ GL db sb vw5 lb rv A) (hAc : Z.heap[A]? = some (.cells #[.nilIface] 60 (0, 0))) (hD : W.heap[D]? = some (.deferred (some []))) (hDA : D ≠ A) :
    (Z.setCell ⟨A, 0, none⟩ .nilIface).heap[D]? = some (.deferred (some [])) ∧ Lg base ((Z.setCell ⟨A, 0, none⟩ .nilIface).putObj D (.deferred none)) lb db sb n vw5 rv5 S5 Q5 L5 R5 ∧ ((Z.setCell ⟨A, 0, none⟩ .nilIface).putObj D (.deferred none)).heap[A]? = some (.cells #[.nilIface] 60 (0, 0)) ∧ Keep (fun k => GL db sb vw5 lb rv k ∨ k = A ∨ k = D) W ((Z.setCell ⟨A, 0, none⟩ .nilIface).putObj D (.deferred none)) := by
  have hDn : ¬ GL db sb vw5 lb rv D := fun e => by
    obtain ⟨c, t, f, hc⟩ := hW.cells D e
    rw [hD] at hc
    cases hc
  have hDl := lt_of_block hD
  have hDZ := (hg.keep.block D hDl hDn).trans hD
  have hk : Keep (fun k => k = A ∨ k = D) Z ((Z.setCell ⟨A, 0, none⟩ .nilIface).putObj D (.deferred none)) := (Keep.set Z ⟨A, 0, none⟩ .nilIface (.inl rfl)).trans (Keep.of_grown (grownBy_putObj' _ D _) (fun k e => by cases e; exact .inr rfl))
  refine ⟨(Below.heap_setCell Z ⟨A, 0, none⟩ .nilIface D hDA).trans hDZ, hZ.kept hk (fun k hk9 e => ?_) (fun r hr hne a ha e => ?_), ?_, (hg.keep.mono (fun _ _ e => .inl e)).trans (hk.mono (fun _ _ e => .inr e))⟩
  · rcases hg.new k hk9 with e9 | e9
    · rcases e with e | e
      · exact hAn (by rw [← e]; exact e9)
      · exact hDn (by rw [← e]; exact e9)
    · omega
  · have hrd := hZ.r.each r hr
    obtain ⟨u, hu⟩ : ∃ u, r.b[0]? = some u := ⟨_, List.getElem?_eq_getElem (List.length_pos_iff.2 hne)⟩
    unfold rcv at hrd
    obtain ⟨b, off, e2, hc⟩ := rd_get hrd hu
    rw [ha] at e2
    cases e2
    unfold World.cell? at hc
    rcases e with e | e
    · simp only at e
      subst e
      rw [hAc] at hc
      rcases off with _ | off
      · simp [bv] at hc
      · simp at hc
    · simp only at e
      subst e
      rw [hDZ] at hc
      simp at hc
  · refine (World.putObj_heap_other (fun e => hDA e.symm)).trans ?_
    exact set_at (k := 0) .nilIface hAc

theorem add_results (tmps : Array Value) (w : World) (g : Nat) (hp : tmps.getD 4 undef = .pointer (some ⟨g, 0, none⟩)) (hg : w.heap[g]? = some (.cells #[.nilIface] 60 (0, 0))) : (results Tryd.f29 tmps).run Tryd.prog w = .ok .nilIface w := by
  have h : Tryd.f29.results = #[.cell 4 60] := rfl
  have hp' : tmps[4]?.getD undef = .pointer (some ⟨g, 0, none⟩) := by simpa using hp
  simp [results, h, hp', asAddr, loadVar, World.cell?, hg]
end
end Go.Proofs.YtcbbklbjfknnlaaDoor
