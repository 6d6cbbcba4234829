/-
  THE LAW WalSafe: what its calls come to; its function literal.
-/
import Derived.Test.YtcbbklbjfknnlaaDoorWzi
import Derived.Test.YtcbbklbjfknnlaaDoorWzf
import Derived.Test.YtcbbklbjfknnlaaDoorWv
import Derived.LoopN
import Derived.Deep.CutRange
import Derived.Deep.RegionWith
set_option linter.unusedVariables false
set_option linter.unusedSimpArgs false
set_option maxRecDepth 100000
namespace Go.Proofs.YtcbbklbjfknnlaaDoor.walSafe
open Go.RowKit Go.ChangeShapes Go.WideShapes Go.ChangeAt Go.Deep

/-- What stands between two things. A, B: the blocks of the log's variable and of the list of all. -/
structure SafeI (w : World) (lb db sb A B q T m : Nat) (RA : List Rc) (x : Value) (vw rv : Value) (R : List Rc) (wx : World) : Prop where
  log : LiveC w.heap.size lb db sb 4000 vw rv R q 0 q T m wx
  same : R.map (·.b) = RA.map (·.b)
  row : wx.ownsRow w.heap.size 32 1 x RA.length (RA.map rcv)
  off : ∀ j, x.ownBlock = some j → ¬ GL db sb vw lb rv j
  boff : ∀ q ∈ R, q.b ≠ [] → ∀ a, q.a = some a → x.ownBlock ≠ some a.block ∧ a.block ≠ B
  na : ¬ GL db sb vw lb rv A
  nb : ¬ GL db sb vw lb rv B
  ab : A ≠ B ∧ x.ownBlock ≠ some A ∧ x.ownBlock ≠ some B ∧ w.heap.size ≤ A ∧ w.heap.size ≤ B
  ca : wx.heap[A]? = some (.cells #[.pointer (some ⟨lb, 0, none⟩)] 28 (0, 0))
  cb : wx.heap[B]? = some (.cells #[x] 22 (0, 0))
  below : Below w.heap.size w wx
def St (w : World) (lb db sb A B q T m : Nat) (RA : List Rc) (x : Value) (wx : World) : Prop := ∃ vw rv R, SafeI w lb db sb A B q T m RA x vw rv R wx

/-- Behind Append, ahead of the list's growing. -/
structure SafeJ (w : World) (lb db sb A B q T m : Nat) (RA : List Rc) (x : Value) (l : List UInt8) (vw rv : Value) (R : List Rc) (wx : World) : Prop where
  log : LiveC w.heap.size lb db sb 4000 vw rv R q 0 q T m wx
  same : R.map (·.b) = RA.map (·.b) ++ [l]
  row : wx.ownsRow w.heap.size 32 1 x RA.length (RA.map rcv)
  off : ∀ j, x.ownBlock = some j → ¬ GL db sb vw lb rv j
  boff : ∀ q ∈ R, q.b ≠ [] → ∀ a, q.a = some a → x.ownBlock ≠ some a.block ∧ a.block ≠ B
  na : ¬ GL db sb vw lb rv A
  nb : ¬ GL db sb vw lb rv B
  ab : A ≠ B ∧ x.ownBlock ≠ some A ∧ x.ownBlock ≠ some B ∧ w.heap.size ≤ A ∧ w.heap.size ≤ B
  ca : wx.heap[A]? = some (.cells #[.pointer (some ⟨lb, 0, none⟩)] 28 (0, 0))
  cb : wx.heap[B]? = some (.cells #[x] 22 (0, 0))
  below : Below w.heap.size w wx

theorem row_gfr {B lb db sb n : Nat} {vw rv vw' rv' x : Value} {e : TypeId} {xs : List Value} {wx wy : World} (ho : wx.ownsRow B e 1 x n xs) (ha : ∀ j, x.ownBlock = some j → ¬ GL db sb vw lb rv j) (hg : Gfr db sb lb vw vw' rv rv' wx wy) : wy.ownsRow B e 1 x n xs ∧ ∀ j, x.ownBlock = some j → ¬ GL db sb vw' lb rv' j :=
  ⟨own_keep ho hg.keep ha, fun j hj e => by
    rcases hg.new j e with e | e
    · exact ha j hj e
    · have := (ho.lt j hj).2; omega⟩
theorem gl_new {lb db sb : Nat} {vw rv vw' rv' : Value} {wx wy : World} (hg : Gfr db sb lb vw vw' rv rv' wx wy) {j : Nat} (h1 : ¬ GL db sb vw lb rv j) (h2 : j < wx.heap.size) : ¬ GL db sb vw' lb rv' j := fun e => by
  rcases hg.new j e with e | e
  · exact h1 e
  · omega

section
variable {w wx wy : World} {lb db sb A B q T m : Nat} {RA : List Rc} {x : Value}

theorem St.old (h : St w lb db sb A B q T m RA x wx) (hb : Below wx.heap.size wx wy) : St w lb db sb A B q T m RA x wy := by
  obtain ⟨vw, rv, R, h⟩ := h
  exact ⟨vw, rv, R, h.log.old hb, h.same, own_old h.row hb, h.off, h.boff, h.na, h.nb, h.ab, (hb.block _ (lt_of_block h.ca)).trans h.ca, (hb.block _ (lt_of_block h.cb)).trans h.cb, h.below.trans (hb.mono h.below.size)⟩
theorem St.cells (h : St w lb db sb A B q T m RA x wx) : wx.cell? ⟨A, 0, none⟩ = some (.pointer (some ⟨lb, 0, none⟩)) ∧ wx.cell? ⟨B, 0, none⟩ = some x ∧ wx.frozen? ⟨B, 0, none⟩ = false ∧ Below w.heap.size w wx ∧ ∃ xo xc, x = .slice xo RA.length xc := by
  obtain ⟨vw, rv, R, h⟩ := h
  exact ⟨by simp [World.cell?, h.ca], by simp [World.cell?, h.cb], by simp [World.frozen?, h.cb], h.below, own_form h.row⟩

theorem St.sync (h : St w lb db sb A B q T m RA x wx) : Calls Tryd.prog 12 #[.pointer (some ⟨lb, 0, none⟩)] wx (fun e w' => e = .returned (.int .i64 0) ∧ St w lb db sb A B q T RA.length RA x w') := by
  obtain ⟨vw, rv, R, h⟩ := h
  refine (sync_C h.log).mono ?_
  rintro e w' ⟨rfl, vw', q1, q2⟩
  obtain ⟨g1, g2⟩ := row_gfr h.row h.off q2
  have hlen : R.length = RA.length := by simpa using congrArg List.length h.same
  rw [hlen] at q1
  exact ⟨rfl, vw', rv, R, q1.mono (Nat.le_refl _) (Nat.zero_le _) (Nat.le_refl _), h.same, g1, g2, h.boff, gl_new q2 h.na (lt_of_block h.ca), gl_new q2 h.nb (lt_of_block h.cb), h.ab, (q2.keep.block _ (lt_of_block h.ca) h.na).trans h.ca, (q2.keep.block _ (lt_of_block h.cb) h.nb).trans h.cb, h.below.trans (live_below h.log.live q2)⟩

/-- One record more. -/
theorem St.app (h : St w lb db sb A B q T m RA x wx) {ao : Option Addr} {c : Nat} {l : List UInt8} (hx : Rd w (.slice ao l.length c) l) (hl : l.length ≤ 500) (hq : q ≤ 1000) (hT : T ≤ 1000) (hRA : RA.length ≤ 1000) :
    Calls Tryd.prog 11 #[.pointer (some ⟨lb, 0, none⟩), .slice ao l.length c] wx (fun e w' => e = .returned (.int .i64 0) ∧ ∃ vw rv R, SafeJ w lb db sb A B (q + 11) (T + 11) m RA x l vw rv R w') := by
  obtain ⟨vw, rv, R, h⟩ := h
  have hlen : R.length = RA.length := by simpa using congrArg List.length h.same
  have hs6 : 1 ≤ secs l.length ∧ secs l.length ≤ 11 := by unfold secs; omega
  refine (append_C h.log (hx.below (Below.refl _ _) h.below) (by omega) (by omega) (by omega) (by omega) (by omega) (by omega) (fun hne j hj e => ?_)).mono ?_
  · obtain ⟨a, ha, haj⟩ := blk_of hj
    have h9 := rd_block hx hne a ha
    obtain ⟨_, _, _, _, hL, -⟩ := h.log
    have := (hL.g.lt j e).1
    omega
  · rintro e w' ⟨rfl, vw', rv', r, q0, q00, q1, q2⟩
    obtain ⟨g1, g2⟩ := row_gfr h.row h.off q2
    refine ⟨rfl, vw', rv', R ++ [r], q1.mono (by omega) (by omega) (by omega), ?_, g1, g2, fun q hq hne a ha => ?_, gl_new q2 h.na (lt_of_block h.ca), gl_new q2 h.nb (lt_of_block h.cb), h.ab, (q2.keep.block _ (lt_of_block h.ca) h.na).trans h.ca, (q2.keep.block _ (lt_of_block h.cb) h.nb).trans h.cb, h.below.trans (live_below h.log.live q2)⟩
    · rw [List.map_append, h.same]
      simp [q0]
    · rcases List.mem_append.1 hq with hq | hq
      · exact h.boff q hq hne a ha
      · obtain rfl := List.mem_singleton.1 hq
        have hn := q00 a ha
        refine ⟨fun e => ?_, fun e => ?_⟩
        · have := (h.row.lt _ e).2
          omega
        · have := lt_of_block h.cb
          omega

/-- The list of all has one more, too. -/
theorem SafeJ.list {w wx w5 : World} {lb db sb A B q T m : Nat} {RA : List Rc} {x v5 : Value} {r : Rc} {vw rv : Value} {R : List Rc} (h : SafeJ w lb db sb A B q T m RA x r.b vw rv R wx) (o : Obj) (o5 : w5.ownsRow w.heap.size 32 1 v5 (RA.length + 1) (RA.map rcv ++ [rcv r])) (g5 : (wx.alloc o).grownBy w5 x.ownBlock) (hf5 : ∀ j, v5.ownBlock = some j → x.ownBlock = some j ∨ wx.heap.size + 1 ≤ j) :
    w5.frozen? ⟨B, 0, none⟩ = false ∧ (∃ u, w5.cell? ⟨B, 0, none⟩ = some u) ∧ St w lb db sb A B q T m (RA ++ [r]) v5 (w5.setCell ⟨B, 0, none⟩ v5) := by
  have hba : Below wx.heap.size wx (wx.alloc o) := (Below.refl _ _).alloc (Nat.le_refl _) _
  obtain ⟨hAB, hxA, hxB, hwA, hwB⟩ := h.ab
  have hlA := lt_of_block h.ca
  have hlB := lt_of_block h.cb
  have hB5 : w5.heap[B]? = some (.cells #[x] 22 (0, 0)) := heap_kept g5 ((hba.block _ hlB).trans h.cb) (fun e => hxB e.symm)
  have hA5 : w5.heap[A]? = some (.cells #[.pointer (some ⟨lb, 0, none⟩)] 28 (0, 0)) := heap_kept g5 ((hba.block _ hlA).trans h.ca) (fun e => hxA e.symm)
  have hlt : ∀ j, GL db sb vw lb rv j → w.heap.size ≤ j ∧ j < wx.heap.size := by
    obtain ⟨_, _, _, _, hL, -⟩ := h.log
    exact fun j hj => hL.g.lt j hj
  have hks : Keep (fun j => j = B) w5 (w5.setCell ⟨B, 0, none⟩ v5) := Keep.set (X := fun j => j = B) w5 ⟨B, 0, none⟩ v5 rfl
  have hk : Keep (fun j => x.ownBlock = some j ∨ j = B) (wx.alloc o) (w5.setCell ⟨B, 0, none⟩ v5) := (Keep.of_grown g5 (fun _ e => .inl e)).trans (hks.mono (fun _ _ e => .inr e))
  refine ⟨by simp [World.frozen?, hB5], ⟨x, by simp [World.cell?, hB5]⟩, vw, rv, R, (h.log.old hba).kept hk (fun j hj e => ?_) (fun q hq hne a ha e => ?_), ?_, ?_, fun j hj e => ?_, fun q hq hne a ha => ⟨fun e => ?_, (h.boff q hq hne a ha).2⟩, h.na, h.nb, ⟨hAB, fun e => ?_, fun e => ?_, hwA, hwB⟩, ?_, ?_, ?_⟩
  · rcases e with e | e
    · exact h.off j e hj
    · exact h.nb (by rw [← e]; exact hj)
  · rcases e with e | e
    · exact (h.boff q hq hne a ha).1 e
    · exact (h.boff q hq hne a ha).2 e
  · rw [h.same, List.map_append]
    rfl
  · rw [List.length_append, List.map_append]
    refine own_keep o5 hks (fun j hj e => ?_)
    rcases hf5 j hj with e9 | e9
    · exact hxB (by rw [e9, e])
    · omega
  · rcases hf5 j hj with e9 | e9
    · exact h.off j e9 e
    · have := (hlt j e).2; omega
  · rcases hf5 _ e with e9 | e9
    · exact (h.boff q hq hne a ha).1 e9
    · obtain ⟨_, _, _, _, hL, -⟩ := h.log
      have := rd_block (hL.g.r.each q hq) hne a ha
      omega
  · rcases hf5 _ e with e9 | e9
    · exact hxA e9
    · omega
  · rcases hf5 _ e with e9 | e9
    · exact hxB e9
    · omega
  · exact (hks.block _ (lt_of_block hA5) (fun e => hAB e)).trans hA5
  · have := set_at (k := 0) v5 hB5
    simpa using this
  · have h1 : Below w.heap.size w w5 := (h.below.trans (hba.mono h.below.size)).grown g5 (Nat.le_trans h.below.size hba.size) (fun j e => (h.row.lt j e).1)
    exact h1.setCell hwB _
end

/-- What the literal comes to. -/
def PutA (w : World) (lb db sb A B q T m : Nat) (RA : List Rc) (w' : World) : Prop := ∃ RN x', (∀ r ∈ RA ++ RN, Rd w (rcv r) r.b) ∧ RN.length ≤ 12 ∧ St w lb db sb A B (q + 132) (T + 132) m (RA ++ RN) x' w'
theorem puta {w w' : World} {lb db sb A B q T m k : Nat} {RA RL RN : List Rc} {x : Value} (h1 : RL = RA ++ RN) (h2 : ∀ r ∈ RL, Rd w (rcv r) r.b) (h : St w lb db sb A B (q + 11 * k) (T + 11 * k) m RL x w') (hk : RN.length = k) (hk2 : k ≤ 12) : PutA w lb db sb A B q T m RA w' := by
  subst h1
  obtain ⟨vw, rv, R, h⟩ := h
  exact ⟨RN, x, h2, by omega, vw, rv, R, { h with log := h.log.mono (by omega) (by omega) (by omega) }⟩

set_option maxHeartbeats 16000000 in
theorem put_any {w wx : World} {lb db sb A B q T m : Nat} {RA : List Rc} {x : Value} (h : St w lb db sb A B q T m RA x wx) {a0 : Option Addr} {n0 c0 : Nat} {RI : List Rc} (hn0 : n0 = RI.length) (hI : Bss w (.slice a0 n0 c0) RI) (hq : q ≤ 500) (hT : T ≤ 500) (hRA : RA.length ≤ 500) (hRr : ∀ r ∈ RA, Rd w (rcv r) r.b) :
    Calls Tryd.prog 10 #[.slice a0 n0 c0, .pointer (some ⟨A, 0, none⟩), .pointer (some ⟨B, 0, none⟩)] wx (fun e w' => e = .returned (.bool true) ∧ PutA w lb db sb A B q T m RA w') := by
  have h0m : n0 ≤ c0 ∧ c0 ≤ maxLen := by
    obtain ⟨_, _, e, q1, q2⟩ := hI.form
    cases e
    exact ⟨by omega, q2⟩
  have hl0 := fun W => run_len_slice (P := Tryd.prog) W 22 3 a0 n0 c0 Tryd.underlying22
  have hm9 : maxLen = 9223372036854775807 := rfl
  have hx0 : (n0 : Int) ≤ 9223372036854775807 := by omega
  have hc0 : n0 ≤ c0 := h0m.1
  have HI := hid hI
  have HN0 := hid hn0
  have HS0 := hid h
  have HRR := hid hRr
  clear hI h0m hm9 hn0 h hRr
  go_enter Tryd.func10, Tryd.ntmps10
  go_wp2_with fail
  go_loopw [5] (fun i wr => ∃ (k : Nat) (RN : List Rc) (x' : Value), k ≤ n0 ∧ k ≤ 12 ∧ i = .int .i64 (k : Int) ∧ RN.length = k ∧ Hid ((∀ r ∈ RA ++ RN, Rd w (rcv r) r.b) ∧ St w lb db sb A B (q + 11 * k) (T + 11 * k) m (RA ++ RN) x' wr)) (fun i _ => 12 - (intOf i).toNat)
  case atStart => exact ⟨0, [], x, by omega, by omega, rfl, rfl, by rw [List.append_nil]; exact ⟨HRR.out, HS0.out⟩⟩
  case round =>
    obtain ⟨k, RN, x', hk1, hk2, rfl, hkn, HS⟩ := hrel
    obtain ⟨RL, hRL⟩ : ∃ RL, RL = RA ++ RN := ⟨_, rfl⟩
    rw [← hRL] at HS
    have HRL := hid hRL
    have HLEN : Hid (RL.length ≤ 512) := by rw [hRL, List.length_append]; show _ ≤ _; omega
    clear hRL
    obtain ⟨cA, cB, fB, hbw, xo, xc, hxe⟩ := HS.out.2.cells
    obtain ⟨jl, hjl⟩ : ∃ jl, jl = RL.length := ⟨_, rfl⟩
    rw [← hjl] at hxe
    have HJL := hid hjl
    clear hjl
    by_cases hlt : k < n0
    · by_cases hlt2 : k < 12
      · have HBw := hid hbw
        have hv := List.getElem?_eq_getElem (l := RI) (i := k) (by have := HN0.out; omega)
        generalize RI[k]'_ = r0 at hv
        obtain ⟨b, off, rfl, hcell0, hrd0⟩ := HI.out.get hv
        have hcell : wr.cell? ⟨b, off + k, none⟩ = some (rcv r0) := (World.cell?_of_block (a := ⟨b, off + k, none⟩) (HBw.out.block b (World.block_lt_of_cell? w _ hcell0))).trans hcell0
        obtain ⟨ra, rc, rb⟩ := r0
        unfold rcv at hcell hrd0
        simp only at hcell hrd0
        obtain ⟨_, _, e0, rl1, rl2, -⟩ := id hrd0
        cases e0
        have hlb := fun W => run_len_slice (P := Tryd.prog) W 32 3 ra rb.length rc Tryd.underlying32
        have HRD0 := hid hrd0
        have hrl9 : (rb.length : Int) ≤ 9223372036854775807 := by
          have hm9 : maxLen = 9223372036854775807 := rfl
          omega
        have hkn9 : (k : Int) < (n0 : Int) := by omega
        have hk12 : (k : Int) < 12 := by omega
        have HKN := hid hkn
        clear hv hcell0 hrd0 rl2 hbw hkn
        subst hxe
        go_upto_if 23 with (fail)
        go_cut [6] from 23 to 25 (fun s wx => ∃ r : Rc, s = .slice r.a r.b.length r.c ∧ r.b.length ≤ 500 ∧ r.b.length ≤ r.c ∧ Hid (Rd w (rcv r) r.b) ∧ wx = wr)
        case first =>
          by_cases h300 : 500 < rb.length
          · have hI300 : (500 : Int) < (rb.length : Int) := by omega
            obtain ⟨ao, c9, hs9, hr9, -⟩ := HRD0.out.head (P := Tryd.prog) 32 5 Tryd.underlying32 (by kernel_rfl) 500 (by omega)
            have hs300 : ∀ W, (Instr.slice 32 (.slice ra rb.length rc) none (some (.int .i64 500)) none).run Tryd.prog W = .ok (.slice ao 500 c9) W := fun W => hs9 .i64 W
            have hl300 : (rb.take 500).length = 500 := by rw [List.length_take]; omega
            have HR9 : Hid (Rd w (rcv ⟨ao, c9, rb.take 500⟩) (rb.take 500)) := by
              show Rd w (.slice ao (rb.take 500).length c9) (rb.take 500)
              rw [hl300]
              exact hr9
            have HL3 := hid hl300
            have HC9 : Hid (500 ≤ c9) := by
              obtain ⟨_, _, e1, q1, -⟩ := id hr9
              have e2 := hl300
              simp only [Value.slice.injEq] at e1
              show _ ≤ _
              omega
            clear hs9 hr9 hl300
            go_wp2_with fail
            go_meet
            exact ⟨⟨ao, c9, rb.take 500⟩, by rw [HL3.out], by rw [HL3.out]; omega, by rw [HL3.out]; exact HC9.out, HR9, rfl⟩
          · have hI300 : ¬ (500 : Int) < (rb.length : Int) := by omega
            go_wp2_with fail
            go_meet
            exact ⟨⟨ra, rc, rb⟩, rfl, by simp only; omega, rl1, HRD0, rfl⟩
        case rest =>
          obtain ⟨⟨ra2, rc2, rb2⟩, rfl, h3, h3c, HR2, rfl⟩ := hcut
          simp only at h3 h3c ⊢
          have HSR := hid (St.app HS.out.2 HR2.out h3 (by omega) (by omega) (by have := HLEN.out; omega))
          have hmax : Hid (jl ≤ 1000) := by have := HJL.out; have := HLEN.out; show _ ≤ _; omega
          go_upto_region 9 with (first | (go_at_call 11; refine HSR.out.mono ?_; rintro e w4 ⟨rfl, vw4, rv4, R4, hS1⟩; have cB4 : w4.cell? ⟨B, 0, none⟩ = some (.slice xo jl xc) := by simp [World.cell?, hS1.cb]))
          have HS1 := hid hS1
          have hba : Below w4.heap.size w4 (w4.alloc (.cells #[.slice ra2 rb2.length rc2] 32)) := (Below.refl _ _).alloc (Nat.le_refl _) _
          have HROW : Hid ((w4.alloc (.cells #[.slice ra2 rb2.length rc2] 32)).ownsRow w.heap.size 32 1 (.slice xo jl xc) jl (RL.map rcv)) := by
            have := own_old hS1.row hba
            rw [← HJL.out] at this
            exact this
          have HR4 : Hid (Rws 1 (w4.alloc (.cells #[.slice ra2 rb2.length rc2] 32)) (.slice (some ⟨w4.heap.size, 0, none⟩) 1 1) [[.slice ra2 rb2.length rc2]]) := Rws.one (r := [.slice ra2 rb2.length rc2]) rfl ⟨rfl, fun u hu => by obtain rfl := List.mem_singleton.1 hu; rfl⟩
          have HB4 : Hid (w.heap.size ≤ w4.heap.size + 1) := (by have := hS1.below.size; show _ ≤ _; omega)
          clear hS1 hba
          go_wp2_with (first
            | (at_builtin; refine wp_rapp3 rfl _ _ 22 rfl w.heap.size 1 24 32 Tryd.underlying22 _ info_bs2 (by decide) (by decide) _ _ _ rfl HROW.out _ _ rfl HR4.out ?capq1 ?capq2 ?capq3 ?_))
          case capq1 => have := hmax.out; simp; omega
          case capq2 => have := hmax.out; simp [maxLen]; omega
          case capq3 => simp only [World.size_alloc]; exact HB4.out
          intro v5 w5 o5 g5 hf5
          obtain ⟨fB5, ⟨u5, cB5⟩, hS5⟩ := SafeJ.list (r := ⟨ra2, rc2, rb2⟩) HS1.out _ (by rw [← HJL.out]; exact o5) g5 (fun j e => by
              rcases hf5 j e with e | e
              · exact .inl e
              · exact .inr (by simpa using e))
          have HS5 := hid hS5
          have HRA5 : Hid (∀ r ∈ RL ++ [(⟨ra2, rc2, rb2⟩ : Rc)], Rd w (rcv r) r.b) := fun r hr => by
            rcases List.mem_append.1 hr with e | e
            · exact HS.out.1 r e
            · obtain rfl := List.mem_singleton.1 e
              exact HR2.out
          obtain ⟨vo, vc, rfl⟩ := own_form o5
          clear o5 g5 hf5 hS5
          go_wp2_with fail
          go_roundw
          case rel => exact ⟨k + 1, RN ++ [⟨ra2, rc2, rb2⟩], _, by omega, by omega, by go_num, by rw [List.length_append, HKN.out]; rfl, hid (by
            rw [← List.append_assoc, ← HRL.out]
            exact ⟨HRA5.out, by
              have := HS5.out
              rw [show q + 11 * (k + 1) = q + 11 * k + 11 from by omega, show T + 11 * (k + 1) = T + 11 * k + 11 from by omega]
              exact this⟩)⟩
          case measure => first | (simp [intOf]; done) | (simp [intOf]; omega)
      · obtain rfl : k = 12 := by omega
        have hkn9 : ((12 : Nat) : Int) < (n0 : Int) := by omega
        have hkn8 : (12 : Int) < (n0 : Int) := by omega
        go_wp2_with fail
        go_ret
        exact ⟨rfl, puta HRL.out HS.out.1 HS.out.2 hkn (by omega)⟩
    · have hkn9 : ¬ (k : Int) < (n0 : Int) := by omega
      go_wp2_with fail
      go_ret
      exact ⟨rfl, puta HRL.out HS.out.1 HS.out.2 hkn (by omega)⟩
end Go.Proofs.YtcbbklbjfknnlaaDoor.walSafe
