/-
  THE LAW WalSame: its walk.
-/
import Derived.Test.YtcbbklbjfknnlaaDoorWv
import Derived.Test.YtcbbklbjfknnlaaDoorWze
import Derived.Test.YtcbbklbjfknnlaaDoorWzf
import Derived.LoopN
import Derived.Deep.CutRange
import Derived.Deep.RegionWith
set_option linter.unusedVariables false
set_option linter.unusedSimpArgs false
set_option maxRecDepth 100000
namespace Go.Proofs.YtcbbklbjfknnlaaDoor.walSame
open Go.RowKit Go.ChangeShapes Go.WideShapes Go.ChangeAt Go.Deep

theorem wrap_rem (a : Int) (n : Nat) (h0 : 0 < n) (h1 : n ≤ 1000) : IntKind.i64.wrap ((IntKind.u64.wrap a).tmod (n : Int)) = (((IntKind.u64.wrap a).toNat % n : Nat) : Int) := by
  have hw : 0 ≤ IntKind.u64.wrap a := by rw [wrap_u64]; omega
  obtain ⟨x, hx⟩ : ∃ x : Nat, IntKind.u64.wrap a = (x : Int) := ⟨(IntKind.u64.wrap a).toNat, by omega⟩
  rw [hx]
  have e1 : (x : Int).tmod (n : Int) = ((x % n : Nat) : Int) := rfl
  have := Nat.mod_lt x h0
  rw [e1, IntKind.wrap_i64]
  simp only [Int.toNat_natCast]
  omega

/-- The numbers of an argument, at plain addresses. -/
def Nums (w : World) (a : Option Addr) (len : Nat) : Prop := ∀ k, k < len → ∃ b off v, a = some ⟨b, off, none⟩ ∧ b < w.heap.size ∧ w.cell? ⟨b, off + k, none⟩ = some (.int .i64 v)
theorem nums_open {H : Type} {enc : TypeId × Value → H} {W : World} {a : Option Addr} {len cap : Nat} {d : DataW H} {p : List MemPlace} (h : DataW.Trod enc Tryd.prog W 0 (fun _ => true) true 23 (.slice a len cap) d p) : len ≤ cap ∧ cap ≤ maxLen ∧ Nums W a len := by
  obtain ⟨fuel, hf⟩ := h
  rcases open_ints Tryd.underlying23 Tryd.underlying3 (by kernel_rfl) hf with ⟨hcs, hx⟩ | ⟨x, l, c, zs, hcs, _, hl, hm, hz, hx, hc, hwz⟩
  · simp [Value.cells] at hcs
    obtain ⟨rfl, rfl, rfl⟩ := hcs
    exact ⟨Nat.le_refl _, by decide, fun k hk => by omega⟩
  · simp [Value.cells] at hcs
    obtain ⟨rfl, rfl, rfl⟩ := hcs
    have hz' : zs.length = cap := by simpa using hz
    refine ⟨hl, hm, fun k hk => ?_⟩
    obtain ⟨b, off, rfl, hc'⟩ := ints_at hc (by omega)
    exact ⟨b, off, _, rfl, World.block_lt_of_cell? W _ (hc' 0 (by omega)), hc' k (by omega)⟩
/-- The tests of an argument. -/
def Bools (w : World) (a : Option Addr) (len : Nat) : Prop := ∀ k, k < len → ∃ b off v, a = some ⟨b, off, none⟩ ∧ b < w.heap.size ∧ w.cell? ⟨b, off + k, none⟩ = some (.bool v)

/-- What stands between two things of a round. -/
def St (w : World) (lb db sb k f t : Nat) (RA : List Rc) (x : Value) (wx : World) : Prop :=
  ∃ vw rv R, LiveD w.heap.size lb db sb 3000 vw rv R t f (6 * k) (6 * k) wx ∧ R.map (·.b) = (RA.drop f).map (·.b) ∧ wx.ownsRow w.heap.size 32 1 x RA.length (RA.map rcv) ∧ (∀ j, x.ownBlock = some j → ¬ GL db sb vw lb rv j) ∧ (∀ q ∈ R, q.b ≠ [] → ∀ a, q.a = some a → x.ownBlock ≠ some a.block) ∧ Below w.heap.size w wx

/-- What stands behind Append. -/
def St1 (w : World) (lb db sb k f t : Nat) (RA : List Rc) (x : Value) (l : List UInt8) (wx : World) : Prop :=
  ∃ vw rv R, LiveD w.heap.size lb db sb 3000 vw rv R t f (6 * k) (6 * k) wx ∧ R.map (·.b) = (RA.drop f).map (·.b) ++ [l] ∧ wx.ownsRow w.heap.size 32 1 x RA.length (RA.map rcv) ∧ (∀ j, x.ownBlock = some j → ¬ GL db sb vw lb rv j) ∧ (∀ q ∈ R, q.b ≠ [] → ∀ a, q.a = some a → x.ownBlock ≠ some a.block) ∧ Below w.heap.size w wx

theorem row_gfr {B lb db sb n : Nat} {vw rv vw' rv' x : Value} {e : TypeId} {xs : List Value} {wx wy : World} (ho : wx.ownsRow B e 1 x n xs) (ha : ∀ j, x.ownBlock = some j → ¬ GL db sb vw lb rv j) (hg : Gfr db sb lb vw vw' rv rv' wx wy) : wy.ownsRow B e 1 x n xs ∧ ∀ j, x.ownBlock = some j → ¬ GL db sb vw' lb rv' j :=
  ⟨own_keep ho hg.keep ha, fun j hj e => by
    rcases hg.new j e with e | e
    · exact ha j hj e
    · have := (ho.lt j hj).2; omega⟩

section
variable {w wx wy : World} {lb db sb k f t : Nat} {RA : List Rc} {x : Value}

theorem St.old (h : St w lb db sb k f t RA x wx) (hb : Below wx.heap.size wx wy) : St w lb db sb k f t RA x wy := by
  obtain ⟨vw, rv, R, h1, h2, h3, h4, h6, h5⟩ := h
  exact ⟨vw, rv, R, h1.old hb, h2, own_old h3 hb, h4, h6, h5.trans (hb.mono h5.size)⟩
theorem St.mono {k' t' : Nat} (h : St w lb db sb k f t RA x wx) (hk : k ≤ k') (ht : t ≤ t') : St w lb db sb k' f t' RA x wx := by
  obtain ⟨vw, rv, R, h1, h2, h3, h4, h6, h5⟩ := h
  exact ⟨vw, rv, R, h1.mono ht (by omega) (by omega), h2, h3, h4, h6, h5⟩
theorem St.len (h : St w lb db sb k f t RA x wx) : ∃ vw rv R, LiveD w.heap.size lb db sb 3000 vw rv R t f (6 * k) (6 * k) wx ∧ R.length = RA.length - f := by
  obtain ⟨vw, rv, R, h1, h2, -⟩ := h
  refine ⟨vw, rv, R, h1, ?_⟩
  have := congrArg List.length h2
  simpa using this

theorem St.sync (h : St w lb db sb k f t RA x wx) : Calls Tryd.prog 12 #[.pointer (some ⟨lb, 0, none⟩)] wx (fun e w' => e = .returned (.int .i64 0) ∧ St w lb db sb k f t RA x w') := by
  obtain ⟨vw, rv, R, h1, h2, h3, h4, h6, h5⟩ := h
  refine (sync_D h1).mono ?_
  rintro e w' ⟨rfl, vw', q1, q2⟩
  obtain ⟨g1, g2⟩ := row_gfr h3 h4 q2
  exact ⟨rfl, vw', rv, R, q1.mono (Nat.le_refl _) (Nat.zero_le _) (Nat.le_refl _), h2, g1, g2, h6, h5.trans (live_below h1.live q2)⟩

theorem St.cut (h : St w lb db sb k f t RA x wx) (f' : Nat) (hf : f ≤ f') (hf2 : f' ≤ RA.length) (hRA : RA.length ≤ 1000) (hk : k ≤ 40) (ht : t ≤ 1000) : Calls Tryd.prog 20 #[.pointer (some ⟨lb, 0, none⟩), .int .u64 (f' : Int)] wx (fun e w' => e = .returned (.int .i64 0) ∧ St w lb db sb k f' (t + 1) RA x w') := by
  obtain ⟨vw, rv, R, h1, h2, h3, h4, h6, h5⟩ := h
  have hlen : R.length = RA.length - f := by
    have := congrArg List.length h2
    simpa using this
  by_cases e : f' = f
  · subst e
    refine (cut_same h1 (by omega)).mono ?_
    rintro e w' ⟨rfl, vw', q1, q2⟩
    obtain ⟨g1, g2⟩ := row_gfr h3 h4 q2
    exact ⟨rfl, vw', rv, R, q1.mono (Nat.le_succ _) (Nat.zero_le _) (Nat.le_refl _), h2, g1, g2, h6, h5.trans (live_below h1.live q2)⟩
  · obtain ⟨m, rfl⟩ : ∃ m, f' = f + m := ⟨f' - f, by omega⟩
    refine (cut_D h1 m (by omega) (by omega) (by omega) (by omega) (by omega) (by omega) (by omega)).mono ?_
    rintro e w' ⟨rfl, vw', rv', q1, q2⟩
    obtain ⟨g1, g2⟩ := row_gfr h3 h4 q2
    refine ⟨rfl, vw', rv', R.drop m, q1.mono (Nat.le_refl _) (Nat.zero_le _) (Nat.le_refl _), ?_, g1, g2, fun q hq => h6 q (List.mem_of_mem_drop hq), h5.trans (live_below h1.live q2)⟩
    rw [List.map_drop, h2, ← List.map_drop, List.drop_drop]

/-- One record more, in the log and in the list. -/
theorem St.app (h : St w lb db sb k f t RA x wx) {ao : Option Addr} {c : Nat} {l : List UInt8} (hx : Rd w (.slice ao l.length c) l) (hl : l.length ≤ 300) (hk : k < 40) (ht : t ≤ 1000) (hRA : RA.length ≤ 1000) :
    Calls Tryd.prog 11 #[.pointer (some ⟨lb, 0, none⟩), .slice ao l.length c] wx (fun e w' => e = .returned (.int .i64 0) ∧ St1 w lb db sb (k + 1) f (t + 1) RA x l w') := by
  obtain ⟨vw, rv, R, h1, h2, h3, h4, h6, h5⟩ := h
  have hlen : R.length = RA.length - f := by
    have := congrArg List.length h2
    simpa using this
  have hs6 : secs l.length ≤ 6 := by unfold secs; omega
  refine (append_D h1 (hx.below (Below.refl _ _) h5) (by omega) (by omega) (by omega) (by omega) (by omega) (by omega) (fun hne j hj e => ?_)).mono ?_
  · obtain ⟨a, ha, haj⟩ := blk_of hj
    have h9 := rd_block hx hne a ha
    obtain ⟨_, _, _, hL, -⟩ := h1
    have := (hL.g.lt j e).1
    omega
  · rintro e w' ⟨rfl, vw', rv', r, q0, q00, q1, q2⟩
    obtain ⟨g1, g2⟩ := row_gfr h3 h4 q2
    refine ⟨rfl, vw', rv', R ++ [r], q1.mono (Nat.le_refl _) (by omega) (by omega), ?_, g1, g2, fun q hq hne a ha e => ?_, h5.trans (live_below h1.live q2)⟩
    · rw [List.map_append, h2]
      simp [q0]
    · rcases List.mem_append.1 hq with hq | hq
      · exact h6 q hq hne a ha e
      · obtain rfl := List.mem_singleton.1 hq
        have := (h3.lt _ e).2
        have := q00 a ha
        omega

/-- What the list of all is, from the first one on. -/
theorem St.all (h : St w lb db sb k f t RA x wx) (hRd : ∀ r ∈ RA, Rd w (rcv r) r.b) : Bss wx x RA := by
  obtain ⟨vw, rv, R, h1, h2, h3, h4, h6, h5⟩ := h
  refine ⟨Rws.own (base := w.heap.size) (e := 32) ?_ ?_, fun r hr => (hRd r hr).below (Below.refl _ _) h5⟩
  · rw [flat_one, List.length_map]
    exact h3
  · intro r hr
    obtain ⟨q, -, rfl⟩ := List.mem_map.1 hr
    refine ⟨rfl, fun u hu => ?_⟩
    obtain rfl := List.mem_singleton.1 hu
    rfl
end

/-- The list of all has one more, too. -/
theorem St1.list {w wx w5 : World} {lb db sb k f t : Nat} {RA : List Rc} {x v5 : Value} {r : Rc} (h : St1 w lb db sb k f t RA x r.b wx) (hf : f ≤ RA.length) (o : Obj) (o5 : w5.ownsRow w.heap.size 32 1 v5 (RA.length + 1) (RA.map rcv ++ [rcv r])) (g5 : (wx.alloc o).grownBy w5 x.ownBlock) (hf5 : ∀ j, v5.ownBlock = some j → x.ownBlock = some j ∨ wx.heap.size + 1 ≤ j) : St w lb db sb k f t (RA ++ [r]) v5 w5 := by
  obtain ⟨vw, rv, R, h1, h2, h3, h4, h6, h5⟩ := h
  have hba : Below wx.heap.size wx (wx.alloc o) := (Below.refl _ _).alloc (Nat.le_refl _) _
  have hk : Keep (fun j => x.ownBlock = some j) (wx.alloc o) w5 := Keep.of_grown g5 (fun _ e => e)
  have hlt : ∀ j, GL db sb vw lb rv j → w.heap.size ≤ j ∧ j < wx.heap.size := by
    obtain ⟨_, _, _, hL, -⟩ := h1
    exact fun j hj => hL.g.lt j hj
  refine ⟨vw, rv, R, ?_, ?_, ?_, fun j hj e => ?_, fun q hq hne a ha e => ?_, ?_⟩
  · obtain ⟨S, Q, L, hL, hd⟩ := h1.old hba
    exact ⟨S, Q, L, { hL with g := hL.g.kept hk (fun j hj e => h4 j e hj) (fun q hq hne a ha e => h6 q hq hne a ha e) }, hd⟩
  · rw [List.drop_append_of_le_length hf, List.map_append, h2]
    rfl
  · rw [List.length_append, List.map_append]
    exact o5
  · rcases hf5 j hj with e9 | e9
    · exact h4 j e9 e
    · have := (hlt j e).2; omega
  · rcases hf5 _ e with e9 | e9
    · exact h6 q hq hne a ha e9
    · obtain ⟨_, _, _, hL, -⟩ := h1
      have := rd_block (hL.g.r.each q hq) hne a ha
      omega
  · exact (h5.trans (hba.mono h5.size)).grown g5 (Nat.le_trans h5.size hba.size) (fun j e => (h3.lt j e).1)

set_option maxHeartbeats 16000000 in
theorem walk0 (a0 a1 a2 : Option Addr) (n1 n2 c0 c1 c2 : Nat) (RI : List Rc) (w : World) (hI : Bss w (.slice a0 RI.length c0) RI) (hB : Bools w a1 n1) (h1c : n1 ≤ c1) (h1m : c1 ≤ maxLen) (hN : Nums w a2 n2) (h2c : n2 ≤ c2) (h2m : c2 ≤ maxLen) :
    Calls Tryd.prog 6 #[.slice a0 RI.length c0, .slice a1 n1 c1, .slice a2 n2 c2] w (AnsP w (.bool true)) := by
  have CN : Hid (Calls Tryd.prog 7 #[.int .i64 3000] w (NewA 3000 w)) := new_any 3000 (by omega) (by omega) w
  obtain ⟨n0, hn0⟩ : ∃ n0, n0 = RI.length := ⟨_, rfl⟩
  have h0m : n0 ≤ c0 ∧ c0 ≤ maxLen := by
    obtain ⟨_, _, e, q1, q2⟩ := hI.form
    cases e
    exact ⟨by omega, q2⟩
  rw [← hn0] at hI ⊢
  have hl0 := fun W => run_len_slice (P := Tryd.prog) W 22 3 a0 n0 c0 Tryd.underlying22
  have hl1 := fun W => run_len_slice (P := Tryd.prog) W 47 3 a1 n1 c1 Tryd.underlying47
  have hl2 := fun W => run_len_slice (P := Tryd.prog) W 23 3 a2 n2 c2 Tryd.underlying23
  have hm9 : maxLen = 9223372036854775807 := rfl
  have hx0 : (n0 : Int) ≤ 9223372036854775807 := by omega
  have hx1 : (n1 : Int) ≤ 9223372036854775807 := by omega
  have hx2 : (n2 : Int) ≤ 9223372036854775807 := by omega
  have hc0 : n0 ≤ c0 := h0m.1
  have HI := hid hI
  have HBo := hid hB
  have HNu := hid hN
  have HN0 := hid hn0
  clear hI hB hN h0m hm9 h1m h2m hn0
  go_enter Tryd.func6, Tryd.ntmps6
  go_wp2_with (first | (go_at_call 7; refine CN.out.mono ?_))
  rintro e w1 ⟨db, sb, rfl, hD1, hb1⟩
  have CO := hid (open_newD hD1 (by omega))
  have HB1 := hid hb1
  clear hD1 hb1
  go_wp2_with (first | (go_at_call 8; refine CO.out.mono ?_))
  rintro e w2 ⟨lb, rfl, hL2, hlb, hb2⟩
  have HB2 : Hid (Below w.heap.size w w2) := HB1.out.trans (hb2.mono HB1.out.size)
  have HL2 := hid hL2
  clear hL2 hb2 hlb
  go_wp2_with (first | (go_at_call 9; refine (wawake_any _).mono ?_; rintro e w3 ⟨rfl, hb3⟩))
  have HI3 : Hid (([] : List Rc).length = 0 ∧ (∀ r ∈ ([] : List Rc), Rd w (rcv r) r.b) ∧ St w lb db sb 0 0 0 [] (.slice none 0 0) w3) :=
    ⟨rfl, (fun r hr => by cases hr), _, _, [], HL2.out.old hb3, rfl, World.ownsRow_nil w3 w.heap.size 32 1, (fun j hj => by cases hj), (fun q hq => by cases hq), HB2.out.trans (hb3.mono HB2.out.size)⟩
  clear hb3
  go_loopw [13, 12, 11] (fun i fv x wr => ∃ (k f : Nat) (RA : List Rc) (xo : Option Addr) (xc : Nat), k ≤ n0 ∧ k ≤ 40 ∧ f ≤ k ∧ i = .int .i64 (k : Int) ∧ fv = .int .i64 (f : Int) ∧ x = .slice xo k xc ∧ Hid (RA.length = k ∧ (∀ r ∈ RA, Rd w (rcv r) r.b) ∧ St w lb db sb k f (2 * k) RA (.slice xo k xc) wr)) (fun i _ _ _ => 40 - (intOf i).toNat)
  case atStart => exact ⟨0, 0, [], none, 0, by omega, by omega, by omega, rfl, rfl, rfl, HI3⟩
  case round =>
    obtain ⟨k, f, RA, xo, xc, hk1, hk2, hfk, rfl, rfl, rfl, HS⟩ := hrel
    by_cases hlt : k < n0
    · by_cases hlt2 : k < 40
      · have HBw : Hid (Below w.heap.size w wr) := by obtain ⟨_, _, _, _, _, _, _, _, _, _, h⟩ := HS.out; exact h
        have hv := List.getElem?_eq_getElem (l := RI) (i := k) (by have := HN0.out; omega)
        generalize RI[k]'_ = r0 at hv
        obtain ⟨b, off, rfl, hcell0, hrd0⟩ := HI.out.get hv
        have hcell : wr.cell? ⟨b, off + k, none⟩ = some (rcv r0) := (World.cell?_of_block (a := ⟨b, off + k, none⟩) (HBw.out.block b (World.block_lt_of_cell? w _ hcell0))).trans hcell0
        obtain ⟨ra, rc, rb⟩ := r0
        unfold rcv at hcell hrd0
        simp only at hcell hrd0
        obtain ⟨_, _, e0, rl1, rl2, -⟩ := id hrd0
        cases e0
        have hlb := fun W => run_len_slice (P := Tryd.prog) W 32 3 ra rb.length rc Tryd.underlying32
        have HRD0 := hid hrd0
        have hrl9 : (rb.length : Int) ≤ 9223372036854775807 := by
          have hm9 : maxLen = 9223372036854775807 := rfl
          omega
        clear hv hcell0 hrd0 rl2
        have hk40 : (k : Int) < 40 := by omega
        have hk40b : decide ((k : Int) < 40) = true := by simp; omega
        have hkn : (k : Int) < (n0 : Int) := by omega
        have hknb : decide ((k : Int) < (n0 : Int)) = true := by simp; omega
        go_upto_if 52 with (fail)
        go_cut [14] from 52 to 54 (fun s wx => ∃ r : Rc, s = .slice r.a r.b.length r.c ∧ r.b.length ≤ 300 ∧ r.b.length ≤ r.c ∧ Hid (Rd w (rcv r) r.b) ∧ wx = wr)
        case first =>
          by_cases h300 : 300 < rb.length
          · have hI300 : (300 : Int) < (rb.length : Int) := by omega
            obtain ⟨ao, c9, hs9, hr9, -⟩ := HRD0.out.head (P := Tryd.prog) 32 5 Tryd.underlying32 (by kernel_rfl) 300 (by omega)
            have hs300 : ∀ W, (Instr.slice 32 (.slice ra rb.length rc) none (some (.int .i64 300)) none).run Tryd.prog W = .ok (.slice ao 300 c9) W := fun W => hs9 .i64 W
            have hl300 : (rb.take 300).length = 300 := by rw [List.length_take]; omega
            have HR9 : Hid (Rd w (rcv ⟨ao, c9, rb.take 300⟩) (rb.take 300)) := by
              show Rd w (.slice ao (rb.take 300).length c9) (rb.take 300)
              rw [hl300]
              exact hr9
            have HL3 := hid hl300
            have HC9 : Hid (300 ≤ c9) := by
              obtain ⟨_, _, e1, q1, -⟩ := id hr9
              have e2 := hl300
              simp only [Value.slice.injEq] at e1
              show _ ≤ _
              omega
            clear hs9 hr9 hl300
            go_wp2_with fail
            go_meet
            exact ⟨⟨ao, c9, rb.take 300⟩, by rw [HL3.out], by rw [HL3.out]; omega, by rw [HL3.out]; exact HC9.out, HR9, rfl⟩
          · have hI300 : ¬ (300 : Int) < (rb.length : Int) := by omega
            go_wp2_with fail
            go_meet
            exact ⟨⟨ra, rc, rb⟩, rfl, by simp only; omega, rl1, HRD0, rfl⟩
        case rest =>
          obtain ⟨⟨ra2, rc2, rb2⟩, rfl, h3, h3c, HR2, rfl⟩ := hcut
          simp only at h3 h3c ⊢
          have HSR := hid (St.app HS.out.2.2 HR2.out h3 hlt2 (by omega) (by have := HS.out.1; omega))
          have HRA : Hid (RA.length = k ∧ ∀ r ∈ RA, Rd w (rcv r) r.b) := ⟨HS.out.1, HS.out.2.1⟩
          go_upto_region 15 with (first | (go_at_call 11; refine HSR.out.mono ?_; rintro e w4 ⟨rfl, hS1⟩))
          have HS1 := hid hS1
          obtain ⟨vw4, rv4, R4, hL4, hm4, hrow4, hap4, hap42, hb4⟩ := hS1
          have hba : Below w4.heap.size w4 (w4.alloc (.cells #[.slice ra2 rb2.length rc2] 32)) := (Below.refl _ _).alloc (Nat.le_refl _) _
          have HROW : Hid ((w4.alloc (.cells #[.slice ra2 rb2.length rc2] 32)).ownsRow w.heap.size 32 1 (.slice xo k xc) k (RA.map rcv)) := by
            have := own_old hrow4 hba
            rw [HRA.out.1] at this
            exact this
          have HR4 : Hid (Rws 1 (w4.alloc (.cells #[.slice ra2 rb2.length rc2] 32)) (.slice (some ⟨w4.heap.size, 0, none⟩) 1 1) [[.slice ra2 rb2.length rc2]]) := Rws.one (r := [.slice ra2 rb2.length rc2]) rfl ⟨rfl, fun u hu => by obtain rfl := List.mem_singleton.1 hu; rfl⟩
          have HB4 : Hid (w.heap.size ≤ w4.heap.size + 1) := (by have := hb4.size; show _ ≤ _; omega)
          clear hL4 hm4 hrow4 hap4 hap42 hb4 hba
          go_wp2_with (first
            | (at_builtin; refine wp_rapp3 rfl _ _ 22 rfl w.heap.size 1 24 32 Tryd.underlying22 _ info_bs2 (by decide) (by decide) _ _ _ rfl HROW.out _ _ rfl HR4.out ?capq1 ?capq2 ?capq3 ?_))
          case capq1 => simp; omega
          case capq2 => simp [maxLen]; omega
          case capq3 => simp only [World.size_alloc]; exact HB4.out
          intro v5 w5 o5 g5 hf5
          have HS5 : Hid (St w lb db sb (k + 1) f (2 * k + 1) (RA ++ [⟨ra2, rc2, rb2⟩]) v5 w5) :=
            St1.list (r := ⟨ra2, rc2, rb2⟩) HS1.out (by have := HRA.out.1; omega) _ (by rw [HRA.out.1]; exact o5) g5 (fun j e => by
              rcases hf5 j e with e | e
              · exact .inl e
              · exact .inr (by simpa using e))
          obtain ⟨vo, vc, rfl⟩ := own_form o5
          have HRA5 : Hid ((RA ++ [(⟨ra2, rc2, rb2⟩ : Rc)]).length = k + 1 ∧ ∀ r ∈ RA ++ [(⟨ra2, rc2, rb2⟩ : Rc)], Rd w (rcv r) r.b) := by
            refine ⟨by rw [List.length_append, HRA.out.1]; rfl, fun r hr => ?_⟩
            rcases List.mem_append.1 hr with e | e
            · exact HRA.out.2 r e
            · obtain rfl := List.mem_singleton.1 e
              exact HR2.out
          generalize RA ++ [(⟨ra2, rc2, rb2⟩ : Rc)] = RA5 at *
          have HB5 : Hid (Below w.heap.size w w5) := by obtain ⟨_, _, _, _, _, _, _, _, h⟩ := HS5.out; exact h
          clear o5 g5 hf5
          go_upto_region 16 with fail
          go_cut [77] from 63 to 77 (fun b wx => b = .bool false ∧ Hid (St w lb db sb (k + 1) f (2 * k + 1) RA5 (.slice vo (k + 1) vc) wx))
          case first =>
            by_cases hlt3 : k < n1
            · obtain ⟨bb, boff, bv9, rfl, hbb, hbc⟩ := HBo.out k hlt3
              have hbc5 : w5.cell? ⟨bb, boff + k, none⟩ = some (.bool bv9) := (World.cell?_of_block (a := ⟨bb, boff + k, none⟩) (HB5.out.block bb hbb)).trans hbc
              have hk3 : (k : Int) < (n1 : Int) := by omega
              have CSy := hid (St.sync HS5.out)
              clear hbb hbc
              cases bv9 with
              | true =>
                go_wp2_with (first | (go_at_call 12; refine CSy.out.mono ?_; rintro e w6 ⟨rfl, hS6⟩))
                go_meet
                exact ⟨rfl, hS6⟩
              | false =>
                go_wp2_with fail
                go_meet
                exact ⟨rfl, HS5⟩
            · have hk3 : ¬ (k : Int) < (n1 : Int) := by omega
              go_wp2_with fail
              go_meet
              exact ⟨rfl, HS5⟩
          case rest =>
            obtain ⟨rfl, HS6⟩ := hcut
            clear HS5 HS1 HROW HR4 HB4 HSR
            generalize wc = w6 at *
            have HB6 : Hid (Below w.heap.size w w6) := by obtain ⟨_, _, _, _, _, _, _, _, h⟩ := HS6.out; exact h
            go_upto_region 18 with fail
            go_cut [88] from 78 to 88 (fun b wx => ∃ q : Bool, b = .bool q ∧ wx = w6 ∧ Hid (q = true → ∃ bb boff v9, a2 = some ⟨bb, boff, none⟩ ∧ k < n2 ∧ w6.cell? ⟨bb, boff + k, none⟩ = some (.int .i64 v9)))
            case first =>
              by_cases hlt3 : k < n2
              · obtain ⟨bb, boff, v9, ha2, hbb, hbc⟩ := HNu.out k hlt3
                have hbc6 : w6.cell? ⟨bb, boff + k, none⟩ = some (.int .i64 v9) := (World.cell?_of_block (a := ⟨bb, boff + k, none⟩) (HB6.out.block bb hbb)).trans hbc
                have hk3 : (k : Int) < (n2 : Int) := by omega
                have hkc2 : (k : Int) < (c2 : Int) := by omega
                have HQ : Hid (∃ bb boff v9, a2 = some ⟨bb, boff, none⟩ ∧ k < n2 ∧ w6.cell? ⟨bb, boff + k, none⟩ = some (.int .i64 v9)) := ⟨bb, boff, v9, ha2, hlt3, hbc6⟩
                clear hbb hbc
                subst ha2
                go_wp2_with fail
                go_meet
                exact ⟨_, rfl, rfl, hid fun _ => HQ.out⟩
              · have hk3 : ¬ (k : Int) < (n2 : Int) := by omega
                go_wp2_with fail
                go_meet
                exact ⟨false, rfl, rfl, hid fun h => by cases h⟩
            case rest =>
            obtain ⟨q9, rfl, hwc, HQ9⟩ := hcut
            rw [hwc]
            clear hwc
            go_upto_if 88 with (fail)
            go_cut [12] from 88 to 105 (fun fv wx => ∃ f' : Nat, fv = .int .i64 (f' : Int) ∧ f' ≤ k + 1 ∧ Hid (St w lb db sb (k + 1) f' (2 * k + 2) RA5 (.slice vo (k + 1) vc) wx))
            case first =>
              have HSM : Hid (St w lb db sb (k + 1) f (2 * k + 2) RA5 (.slice vo (k + 1) vc) w6) := HS6.out.mono (Nat.le_refl _) (Nat.le_succ _)
              cases q9 with
              | true =>
                obtain ⟨bb, boff, v9, rfl, hlt3, hbc6⟩ := HQ9.out rfl
                have hk3 : (k : Int) < (n2 : Int) := by omega
                have hkc2 : (k : Int) < (c2 : Int) := by omega
                obtain ⟨c, hc4, hcw⟩ : ∃ c : Nat, c < 4 ∧ IntKind.i64.wrap ((IntKind.u64.wrap v9).tmod 4) = (c : Int) := ⟨_, Nat.mod_lt _ (by omega), wrap_rem v9 4 (by omega) (by omega)⟩
                have hlall := fun W => run_len_slice (P := Tryd.prog) W 22 3 vo (k + 1) vc Tryd.underlying22
                have hsum : IntKind.i64.wrap ((f : Int) + (c : Int)) = ((f + c : Nat) : Int) := by rw [IntKind.wrap_i64]; omega
                obtain ⟨fc, hfc⟩ : ∃ fc, fc = f + c := ⟨_, rfl⟩
                rw [← hfc] at hsum
                obtain ⟨f', hf'⟩ : ∃ f', f' = min (k + 1) fc := ⟨_, rfl⟩
                have hu64 : IntKind.u64.wrap (f' : Int) = (f' : Int) := by rw [wrap_u64]; omega
                have CC0 := St.cut HS6.out f' (by omega) (by have := HRA5.out.1; omega) (by have := HRA5.out.1; omega) (by omega) (by omega)
                have CC := hid CC0
                have HF' : Hid (f' ≤ k + 1) := hid (by omega)
                clear CC0 HQ9
                by_cases hmin : k + 1 ≤ fc
                · obtain rfl : f' = k + 1 := by omega
                  have hm1 : ((k + 1 : Nat) : Int) ≤ (fc : Int) := by omega
                  have hm2 : (k : Int) + 1 ≤ (fc : Int) := by omega
                  have hm3 : ¬ ((fc : Int) < (k : Int) + 1) := by omega
                  clear hf' hfc
                  go_wp2_with (first | (go_at_call 20; refine CC.out.mono ?_; rintro e w7 ⟨rfl, hS7⟩))
                  go_meet
                  exact ⟨k + 1, by go_num, HF'.out, hS7⟩
                · obtain rfl : f' = fc := by omega
                  have hm1 : (f' : Int) < ((k + 1 : Nat) : Int) := by omega
                  have hm2 : (f' : Int) < (k : Int) + 1 := by omega
                  have hm3 : ¬ ((k : Int) + 1 ≤ (f' : Int)) := by omega
                  clear hf' hfc
                  go_wp2_with (first | (go_at_call 20; refine CC.out.mono ?_; rintro e w7 ⟨rfl, hS7⟩))
                  go_meet
                  exact ⟨f', rfl, HF'.out, hS7⟩
              | false =>
                go_wp2_with fail
                go_meet
                exact ⟨f, rfl, by omega, HSM⟩
            case rest =>
              obtain ⟨f', rfl, hf', HS7⟩ := hcut
              clear HS6 HQ9 HB6
              generalize wc = W7 at *
              have hst := HS7.out
              obtain ⟨vw7, rv7, R7, hL7, hm7, hrow7, -, -, hb7⟩ := hst
              have hlen7 : f' + R7.length = k + 1 := by
                have h1 := congrArg List.length hm7
                have h2 := HRA5.out.1
                simp at h1
                omega
              have CF : Hid (∀ W, Below W7.heap.size W7 W → Calls Tryd.prog 16 #[.pointer (some ⟨lb, 0, none⟩)] W (fun e w' => e = .returned (.int .u64 (f' : Int)) ∧ w' = W)) := hid fun W hW => first_live (hL7.live.old hW)
              have CX : Hid (∀ W, Below W7.heap.size W7 W → Calls Tryd.prog 15 #[.pointer (some ⟨lb, 0, none⟩)] W (Draws W (.int .u64 ((k + 1 : Nat) : Int)))) := hid fun W hW => by
                have h1 := next_live (hL7.live.old hW) (by omega)
                rw [hlen7] at h1
                exact h1
              have CR : Hid (∀ W, Below W7.heap.size W7 W → Calls Tryd.prog 18 #[.pointer (some ⟨lb, 0, none⟩)] W (RecordsA R7 W)) := hid fun W hW => records_live (hL7.live.old hW) (by omega)
              have hall := St.all HS7.out HRA5.out.2
              obtain ⟨zo, zc, hzs, hzb⟩ := hall.cut f' (by have := HRA5.out.1; omega)
              have hz9 : RA5.length - f' = k + 1 - f' := by have := HRA5.out.1; omega
              rw [hz9] at hzs hzb
              obtain ⟨zn, hzn⟩ : ∃ zn, zn = k + 1 - f' := ⟨_, rfl⟩
              rw [← hzn] at hzs hzb
              have CSm : Hid (∀ W2 y R', Bss W2 y R' → R'.map (·.b) = R7.map (·.b) → Below W7.heap.size W7 W2 → Calls Tryd.prog 17 #[y, .slice zo zn zc, .func (.func 19) #[] #[]] W2 (AnsP W2 (.bool true))) := hid fun W2 y R' q1 q2 q3 => same_bs _ _ _ _ _ q1 (hzb.old q3) (by rw [q2, hm7])
              obtain ⟨k1, hk1⟩ : ∃ k1, k1 = k + 1 := ⟨_, rfl⟩
              have hlall := fun W => run_len_slice (P := Tryd.prog) W 22 3 vo k1 vc Tryd.underlying22
              have HWm : Hid (∀ W m, Below W7.heap.size W7 W → Below W7.heap.size W (W.drewN m)) := hid fun W m hb => ⟨rfl, rfl, rfl, Nat.le_refl _, fun _ _ => rfl⟩
              have hu1 : IntKind.u64.wrap (f' : Int) = (f' : Int) := by rw [wrap_u64]; omega
              have hu2 : IntKind.u64.wrap (k1 : Int) = (k1 : Int) := by rw [wrap_u64]; omega
              rw [← hk1] at CX hzs ⊢
              have HK1 := hid hk1
              clear hk1
              clear hL7 hm7 hrow7 hb7 hall hzb hz9 hzn hlen7
              go_upto_region 22 with fail
              go_cut [127] from 106 to 127 (fun b wx => b = .bool false ∧ Hid (Below W7.heap.size W7 wx))
              case first =>
                refine wp_region_noPanic ?_
                refine wp_region_held_drew (S := fun _ => Hid True) (by kernel_rfl) (hid trivial) (fun hHeld => ?_)
                have hWd : Below W7.heap.size W7 W7.drew := ⟨rfl, rfl, rfl, Nat.le_refl _, fun _ _ => rfl⟩
                have CFd := hid (CF.out _ hWd)
                have CXd := hid (CX.out _ hWd)
                have HWd := hid hWd
                clear hWd
                generalize W7.drew = Wd at *
                refine wpAnyH_take (i := 0) (v := (.pointer (some ⟨lb, 0, none⟩))) rfl (by kernel_rfl) (by kernel_rfl) (by kernel_rfl) (fun _ _ _ h => (show False from h).elim) ?xyRA1 ?xhRA1 ?xrRA1
                case xhRA1 => exact hHeld
                case xyRA1 => exact Or.inl ⟨by rfl, fun W9 hW => by clear hHeld; simp only [List.getElem_toArray, List.getElem_cons_succ, List.getElem_cons_zero]; go_simp⟩
                simp only [Act.put, List.getElem_toArray, List.getElem_cons_succ, List.getElem_cons_zero, List.setIfInBounds_toArray, List.set_cons_succ, List.set_cons_zero]
                refine wpAnyH_take (i := 2) (v := (.int .i64 (f' : Int))) rfl (by kernel_rfl) (by kernel_rfl) (by kernel_rfl) (fun _ _ _ h => (show False from h).elim) ?xyRA2 ?xhRA2 ?xrRA2
                case xhRA2 => exact hHeld
                case xyRA2 => exact Or.inl ⟨by rfl, fun W9 hW => by clear hHeld; simp only [List.getElem_toArray, List.getElem_cons_succ, List.getElem_cons_zero]; go_simp⟩
                simp only [Act.put, List.getElem_toArray, List.getElem_cons_succ, List.getElem_cons_zero, List.setIfInBounds_toArray, List.set_cons_succ, List.set_cons_zero]
                refine wpAnyH_take (i := 3) (v := (.int .u64 (f' : Int))) rfl (by kernel_rfl) (by kernel_rfl) (by kernel_rfl) (fun _ _ _ h => (show False from h).elim) ?xyRA3 ?xhRA3 ?xrRA3
                case xhRA3 => exact hHeld
                case xyRA3 => exact Or.inl ⟨by rfl, fun W9 hW => by clear hHeld; simp only [List.getElem_toArray, List.getElem_cons_succ, List.getElem_cons_zero]; go_simp⟩
                simp only [Act.put, List.getElem_toArray, List.getElem_cons_succ, List.getElem_cons_zero, List.setIfInBounds_toArray, List.set_cons_succ, List.set_cons_zero]
                refine wpAnyH_ready (rs := [1]) (by kernel_rfl) (by simp) ?_
                refine AllReadyH.cons rfl (fun K hK => ?_) AllReadyH.nil
                go_simp
                go_wp2_with (first | (go_at_call 16; refine CFd.out.mono ?_; rintro e w8 ⟨rfl, rfl⟩))
                refine hK.out _ _ (hid trivial) (fun hHeld => ?_)
                clear hK K
                refine wpAnyH_take (i := 4) (v := (.bool false)) rfl (by kernel_rfl) (by kernel_rfl) (by kernel_rfl) (fun _ _ _ h => (show False from h).elim) ?xyRA4 ?xhRA4 ?xrRA4
                case xhRA4 => exact hHeld
                case xyRA4 => exact Or.inl ⟨by rfl, fun W9 hW => by clear hHeld; simp only [List.getElem_toArray, List.getElem_cons_succ, List.getElem_cons_zero]; go_simp⟩
                simp only [Act.put, List.getElem_toArray, List.getElem_cons_succ, List.getElem_cons_zero, List.setIfInBounds_toArray, List.set_cons_succ, List.set_cons_zero]
                refine wpAnyH_take (i := 5) (v := (.bool false)) rfl (by kernel_rfl) (by kernel_rfl) (by kernel_rfl) (fun _ _ _ h => (show False from h).elim) ?xyRA5 ?xhRA5 ?xrRA5
                case xhRA5 => exact hHeld
                case xyRA5 => exact Or.inl ⟨by rfl, fun W9 hW => by clear hHeld; simp only [List.getElem_toArray, List.getElem_cons_succ, List.getElem_cons_zero]; go_simp⟩
                simp only [Act.put, List.getElem_toArray, List.getElem_cons_succ, List.getElem_cons_zero, List.setIfInBounds_toArray, List.set_cons_succ, List.set_cons_zero]
                refine wpAnyH_take (i := 6) (v := (.pointer (some ⟨lb, 0, none⟩))) rfl (by kernel_rfl) (by kernel_rfl) (by kernel_rfl) (fun _ _ _ h => (show False from h).elim) ?xyRA6 ?xhRA6 ?xrRA6
                case xhRA6 => exact hHeld
                case xyRA6 => exact Or.inl ⟨by rfl, fun W9 hW => by clear hHeld; simp only [List.getElem_toArray, List.getElem_cons_succ, List.getElem_cons_zero]; go_simp⟩
                simp only [Act.put, List.getElem_toArray, List.getElem_cons_succ, List.getElem_cons_zero, List.setIfInBounds_toArray, List.set_cons_succ, List.set_cons_zero]
                refine wpAnyH_take (i := 8) (v := (.slice vo k1 vc)) rfl (by kernel_rfl) (by kernel_rfl) (by kernel_rfl) (fun _ _ _ h => (show False from h).elim) ?xyRA7 ?xhRA7 ?xrRA7
                case xhRA7 => exact hHeld
                case xyRA7 => exact Or.inl ⟨by rfl, fun W9 hW => by clear hHeld; simp only [List.getElem_toArray, List.getElem_cons_succ, List.getElem_cons_zero]; go_simp⟩
                simp only [Act.put, List.getElem_toArray, List.getElem_cons_succ, List.getElem_cons_zero, List.setIfInBounds_toArray, List.set_cons_succ, List.set_cons_zero]
                refine wpAnyH_take (i := 9) (v := (.int .i64 (k1 : Int))) rfl (by kernel_rfl) (by kernel_rfl) (by kernel_rfl) (fun _ _ _ h => (show False from h).elim) ?xyRA8 ?xhRA8 ?xrRA8
                case xhRA8 => exact hHeld
                case xyRA8 => exact Or.inl ⟨by rfl, fun W9 hW => by clear hHeld; simp only [List.getElem_toArray, List.getElem_cons_succ, List.getElem_cons_zero]; go_simp⟩
                simp only [Act.put, List.getElem_toArray, List.getElem_cons_succ, List.getElem_cons_zero, List.setIfInBounds_toArray, List.set_cons_succ, List.set_cons_zero]
                refine wpAnyH_take (i := 10) (v := (.int .u64 (k1 : Int))) rfl (by kernel_rfl) (by kernel_rfl) (by kernel_rfl) (fun _ _ _ h => (show False from h).elim) ?xyRA9 ?xhRA9 ?xrRA9
                case xhRA9 => exact hHeld
                case xyRA9 => exact Or.inl ⟨by rfl, fun W9 hW => by clear hHeld; simp only [List.getElem_toArray, List.getElem_cons_succ, List.getElem_cons_zero]; go_simp⟩
                simp only [Act.put, List.getElem_toArray, List.getElem_cons_succ, List.getElem_cons_zero, List.setIfInBounds_toArray, List.set_cons_succ, List.set_cons_zero]
                refine wpAnyH_ready (rs := [7]) (by kernel_rfl) (by simp) ?_
                refine AllReadyH.cons rfl (fun K hK => ?_) AllReadyH.nil
                go_simp
                go_wp2_with (first | (go_at_call 15; refine CXd.out.mono ?_; rintro e w9 ⟨rfl, m9, rfl⟩))
                refine hK.out _ _ (hid trivial) (fun hHeld => ?_)
                clear hK K
                have hWe := HWd.out.trans (HWm.out _ m9 HWd.out)
                have CRd := hid (CR.out _ hWe)
                have HWe := hid hWe
                clear hWe
                refine wpAnyH_take (i := 11) (v := (.bool false)) rfl (by kernel_rfl) (by kernel_rfl) (by kernel_rfl) (fun _ _ _ h => (show False from h).elim) ?xyRA10 ?xhRA10 ?xrRA10
                case xhRA10 => exact hHeld
                case xyRA10 => exact Or.inl ⟨by rfl, fun W9 hW => by clear hHeld; simp only [List.getElem_toArray, List.getElem_cons_succ, List.getElem_cons_zero]; go_simp⟩
                simp only [Act.put, List.getElem_toArray, List.getElem_cons_succ, List.getElem_cons_zero, List.setIfInBounds_toArray, List.set_cons_succ, List.set_cons_zero]
                refine wpAnyH_take (i := 12) (v := (.bool false)) rfl (by kernel_rfl) (by kernel_rfl) (by kernel_rfl) (fun _ _ _ h => (show False from h).elim) ?xyRA11 ?xhRA11 ?xrRA11
                case xhRA11 => exact hHeld
                case xyRA11 => exact Or.inl ⟨by rfl, fun W9 hW => by clear hHeld; simp only [List.getElem_toArray, List.getElem_cons_succ, List.getElem_cons_zero]; go_simp⟩
                simp only [Act.put, List.getElem_toArray, List.getElem_cons_succ, List.getElem_cons_zero, List.setIfInBounds_toArray, List.set_cons_succ, List.set_cons_zero]
                refine wpAnyH_take (i := 13) (v := (.bool false)) rfl (by kernel_rfl) (by kernel_rfl) (by kernel_rfl) (fun _ _ _ h => (show False from h).elim) ?xyRA12 ?xhRA12 ?xrRA12
                case xhRA12 => exact hHeld
                case xyRA12 => exact Or.inl ⟨by rfl, fun W9 hW => by clear hHeld; simp only [List.getElem_toArray, List.getElem_cons_succ, List.getElem_cons_zero]; go_simp⟩
                simp only [Act.put, List.getElem_toArray, List.getElem_cons_succ, List.getElem_cons_zero, List.setIfInBounds_toArray, List.set_cons_succ, List.set_cons_zero]
                refine wpAnyH_take (i := 14) (v := (.pointer (some ⟨lb, 0, none⟩))) rfl (by kernel_rfl) (by kernel_rfl) (by kernel_rfl) (fun _ _ _ h => (show False from h).elim) ?xyRA13 ?xhRA13 ?xrRA13
                case xhRA13 => exact hHeld
                case xyRA13 => exact Or.inl ⟨by rfl, fun W9 hW => by clear hHeld; simp only [List.getElem_toArray, List.getElem_cons_succ, List.getElem_cons_zero]; go_simp⟩
                simp only [Act.put, List.getElem_toArray, List.getElem_cons_succ, List.getElem_cons_zero, List.setIfInBounds_toArray, List.set_cons_succ, List.set_cons_zero]
                refine wpAnyH_take (i := 16) (v := (.slice vo k1 vc)) rfl (by kernel_rfl) (by kernel_rfl) (by kernel_rfl) (fun _ _ _ h => (show False from h).elim) ?xyRA14 ?xhRA14 ?xrRA14
                case xhRA14 => exact hHeld
                case xyRA14 => exact Or.inl ⟨by rfl, fun W9 hW => by clear hHeld; simp only [List.getElem_toArray, List.getElem_cons_succ, List.getElem_cons_zero]; go_simp⟩
                simp only [Act.put, List.getElem_toArray, List.getElem_cons_succ, List.getElem_cons_zero, List.setIfInBounds_toArray, List.set_cons_succ, List.set_cons_zero]
                refine wpAnyH_take (i := 17) (v := (.int .i64 (f' : Int))) rfl (by kernel_rfl) (by kernel_rfl) (by kernel_rfl) (fun _ _ _ h => (show False from h).elim) ?xyRA15 ?xhRA15 ?xrRA15
                case xhRA15 => exact hHeld
                case xyRA15 => exact Or.inl ⟨by rfl, fun W9 hW => by clear hHeld; simp only [List.getElem_toArray, List.getElem_cons_succ, List.getElem_cons_zero]; go_simp⟩
                simp only [Act.put, List.getElem_toArray, List.getElem_cons_succ, List.getElem_cons_zero, List.setIfInBounds_toArray, List.set_cons_succ, List.set_cons_zero]
                refine wpAnyH_take (i := 18) (v := (.slice zo zn zc)) rfl (by kernel_rfl) (by kernel_rfl) (by kernel_rfl) (fun _ _ _ h => (show False from h).elim) ?xyRA16 ?xhRA16 ?xrRA16
                case xhRA16 => exact hHeld
                case xyRA16 => exact Or.inl ⟨by rfl, fun W9 hW => by clear hHeld; simp only [List.getElem_toArray, List.getElem_cons_succ, List.getElem_cons_zero]; go_simp⟩
                simp only [Act.put, List.getElem_toArray, List.getElem_cons_succ, List.getElem_cons_zero, List.setIfInBounds_toArray, List.set_cons_succ, List.set_cons_zero]
                refine wpAnyH_ready (rs := [15]) (by kernel_rfl) (by simp) ?_
                refine AllReadyH.cons rfl (fun K hK => ?_) AllReadyH.nil
                go_simp
                go_wp2_with (first | (go_at_call 18; refine CRd.out.mono ?_; rintro e wA ⟨y, R', rfl, hy, hR', hbA⟩; have HyB := hid (And.intro (Rown.bss hy) (And.intro hR' (HWe.out.trans (hbA.mono HWe.out.size)))); clear hy hR' hbA))
                refine hK.out _ _ (hid trivial) (fun hHeld => ?_)
                clear hK K
                refine wpAnyH_ready (rs := [19]) (by kernel_rfl) (by simp) ?_
                refine AllReadyH.cons rfl (fun K hK => ?_) AllReadyH.nil
                go_simp
                go_wp2_with (first | (go_at_call 17; refine (CSm.out _ _ _ HyB.out.1 HyB.out.2.1 HyB.out.2.2).mono ?_; rintro e wB ⟨rfl, hbB⟩))
                refine hK.out _ _ (hid trivial) (fun hHeld => ?_)
                clear hK K
                refine wpAnyH_take (i := 20) (v := (.bool false)) rfl (by kernel_rfl) (by kernel_rfl) (by kernel_rfl) (fun _ _ _ h => (show False from h).elim) ?xyRA17 ?xhRA17 ?xrRA17
                case xhRA17 => exact hHeld
                case xyRA17 => exact Or.inl ⟨by rfl, fun W9 hW => by clear hHeld; simp only [List.getElem_toArray, List.getElem_cons_succ, List.getElem_cons_zero]; go_simp⟩
                simp only [Act.put, List.getElem_toArray, List.getElem_cons_succ, List.getElem_cons_zero, List.setIfInBounds_toArray, List.set_cons_succ, List.set_cons_zero]
                refine wpAnyH_take (i := 21) (v := (.bool false)) rfl (by kernel_rfl) (by kernel_rfl) (by kernel_rfl) (fun _ _ _ h => (show False from h).elim) ?xyRA18 ?xhRA18 ?xrRA18
                case xhRA18 => exact hHeld
                case xyRA18 => exact Or.inl ⟨by rfl, fun W9 hW => by clear hHeld; simp only [List.getElem_toArray, List.getElem_cons_succ, List.getElem_cons_zero]; go_simp⟩
                simp only [Act.put, List.getElem_toArray, List.getElem_cons_succ, List.getElem_cons_zero, List.setIfInBounds_toArray, List.set_cons_succ, List.set_cons_zero]
                refine wpAnyH_done (by kernel_rfl) ?_ _
                refine NoPanic.normal ?_
                have HBB : Hid (Below W7.heap.size W7 wB) := HyB.out.2.2.trans (hbB.mono HyB.out.2.2.size)
                clear hbB
                go_wp2_with fail
                go_meet
                exact ⟨rfl, HBB⟩
              case rest =>
                obtain ⟨rfl, HBB⟩ := hcut
                have HS8 : Hid (RA5.length = k + 1 ∧ (∀ r ∈ RA5, Rd w (rcv r) r.b) ∧ St w lb db sb (k + 1) f' (2 * (k + 1)) RA5 (.slice vo (k + 1) vc) wc) := ⟨HRA5.out.1, HRA5.out.2, St.mono (HS7.out.old HBB.out) (Nat.le_refl _) (by omega)⟩
                go_wp2_with fail
                go_roundw
                case rel => exact ⟨k + 1, f', RA5, vo, vc, by omega, by omega, hf', by go_num, rfl, by rw [HK1.out], HS8⟩
                case measure => first | (simp [intOf]; done) | (simp [intOf]; omega)
      · have hk40 : ¬ (k : Int) < 40 := by omega
        have CSy := hid (St.sync HS.out.2.2)
        have HRA : Hid (RA.length = k ∧ ∀ r ∈ RA, Rd w (rcv r) r.b) := ⟨HS.out.1, HS.out.2.1⟩
        clear HS
        go_upto_region 26 with (first | (go_at_call 12; refine CSy.out.mono ?_; rintro e w6 ⟨rfl, hS6⟩))
        have hall := St.all hS6 HRA.out.2
        obtain ⟨vw7, rv7, R7, hL7, hm7, -, -, -, hb7⟩ := hS6
        have hlen7 : f + R7.length = k := by
          have h1 := congrArg List.length hm7
          have h2 := HRA.out.1
          simp at h1
          omega
        have CO := hid (open_D hL7 (by omega) (by omega) (by omega))
        have HM7 := hid hm7
        have HLEN7 := hid hlen7
        have HALL := hid hall
        have HB7 := hid hb7
        clear hall hL7 hm7 hb7 hlen7
        go_wp2_with (first | (go_at_call 8; refine CO.out.mono ?_))
        rintro e W7 ⟨lbx, rvx, Rx, rfl, hRx, hLx, hbx⟩
        have hlenx : f + Rx.length = k := by
          have h1 := congrArg List.length hRx
          have h2 := HLEN7.out
          simp at h1
          omega
        have hWd : Below W7.heap.size W7 W7.drew := ⟨rfl, rfl, rfl, Nat.le_refl _, fun _ _ => rfl⟩
        have CFd := hid (first_live (hLx.old hWd))
        have CXd0 := next_live (hLx.old hWd) (by omega)
        rw [hlenx] at CXd0
        have CXd := hid CXd0
        have CR : Hid (∀ W, Below W7.heap.size W7 W → Calls Tryd.prog 18 #[.pointer (some ⟨lbx, 0, none⟩)] W (RecordsA Rx W)) := hid fun W hW => records_live (hLx.old hW) (by omega)
        obtain ⟨zo, zc, hzs, hzb⟩ := (HALL.out.old hbx).cut f (by have := HRA.out.1; omega)
        obtain ⟨zn, hzn⟩ : ∃ zn, zn = RA.length - f := ⟨_, rfl⟩
        rw [← hzn] at hzs hzb
        have CSm : Hid (∀ W2 y R', Bss W2 y R' → R'.map (·.b) = Rx.map (·.b) → Below W7.heap.size W7 W2 → Calls Tryd.prog 17 #[y, .slice zo zn zc, .func (.func 19) #[] #[]] W2 (AnsP W2 (.bool true))) := hid fun W2 y R' q1 q2 q3 => same_bs _ _ _ _ _ q1 (hzb.old q3) (by rw [q2, hRx, HM7.out])
        have hlall := fun W => run_len_slice (P := Tryd.prog) W 22 3 xo k xc Tryd.underlying22
        have HWm : Hid (∀ W m, Below W7.heap.size W7 W → Below W7.heap.size W (W.drewN m)) := hid fun W m hb => ⟨rfl, rfl, rfl, Nat.le_refl _, fun _ _ => rfl⟩
        have hu1 : IntKind.u64.wrap (f : Int) = (f : Int) := by rw [wrap_u64]; omega
        have hu2 : IntKind.u64.wrap (k : Int) = (k : Int) := by rw [wrap_u64]; omega
        have HWd := hid hWd
        have HBX : Hid (Below w.heap.size w W7) := HB7.out.trans (hbx.mono HB7.out.size)
        clear hWd CXd0 hlenx hRx hLx hbx hzb hzn
        go_upto_region 27 with fail
        refine wp_region_noPanic ?_
        refine wp_region_held_drew (S := fun _ => Hid True) (by kernel_rfl) (hid trivial) (fun hHeld => ?_)
        generalize W7.drew = Wd at *
        refine wpAnyH_take (i := 0) (v := (.int .i64 0)) rfl (by kernel_rfl) (by kernel_rfl) (by kernel_rfl) (fun _ _ _ h => (show False from h).elim) ?xyRB1 ?xhRB1 ?xrRB1
        case xhRB1 => exact hHeld
        case xyRB1 => exact Or.inl ⟨by rfl, fun W9 hW => by clear hHeld; simp only [List.getElem_toArray, List.getElem_cons_succ, List.getElem_cons_zero]; go_simp⟩
        simp only [Act.put, List.getElem_toArray, List.getElem_cons_succ, List.getElem_cons_zero, List.setIfInBounds_toArray, List.set_cons_succ, List.set_cons_zero]
        refine wpAnyH_take (i := 1) (v := (.bool true)) rfl (by kernel_rfl) (by kernel_rfl) (by kernel_rfl) (fun _ _ _ h => (show False from h).elim) ?xyRB2 ?xhRB2 ?xrRB2
        case xhRB2 => exact hHeld
        case xyRB2 => exact Or.inl ⟨by rfl, fun W9 hW => by clear hHeld; simp only [List.getElem_toArray, List.getElem_cons_succ, List.getElem_cons_zero]; go_simp⟩
        simp only [Act.put, List.getElem_toArray, List.getElem_cons_succ, List.getElem_cons_zero, List.setIfInBounds_toArray, List.set_cons_succ, List.set_cons_zero]
        refine wpAnyH_take (i := 2) (v := (.bool true)) rfl (by kernel_rfl) (by kernel_rfl) (by kernel_rfl) (fun _ _ _ h => (show False from h).elim) ?xyRB3 ?xhRB3 ?xrRB3
        case xhRB3 => exact hHeld
        case xyRB3 => exact Or.inl ⟨by rfl, fun W9 hW => by clear hHeld; simp only [List.getElem_toArray, List.getElem_cons_succ, List.getElem_cons_zero]; go_simp⟩
        simp only [Act.put, List.getElem_toArray, List.getElem_cons_succ, List.getElem_cons_zero, List.setIfInBounds_toArray, List.set_cons_succ, List.set_cons_zero]
        refine wpAnyH_take (i := 3) (v := (.pointer (some ⟨lbx, 0, none⟩))) rfl (by kernel_rfl) (by kernel_rfl) (by kernel_rfl) (fun _ _ _ h => (show False from h).elim) ?xyRB4 ?xhRB4 ?xrRB4
        case xhRB4 => exact hHeld
        case xyRB4 => exact Or.inl ⟨by rfl, fun W9 hW => by clear hHeld; simp only [List.getElem_toArray, List.getElem_cons_succ, List.getElem_cons_zero]; go_simp⟩
        simp only [Act.put, List.getElem_toArray, List.getElem_cons_succ, List.getElem_cons_zero, List.setIfInBounds_toArray, List.set_cons_succ, List.set_cons_zero]
        refine wpAnyH_take (i := 4) (v := (.bool true)) rfl (by kernel_rfl) (by kernel_rfl) (by kernel_rfl) (fun _ _ _ h => (show False from h).elim) ?xyRB5 ?xhRB5 ?xrRB5
        case xhRB5 => exact hHeld
        case xyRB5 => exact Or.inl ⟨by rfl, fun W9 hW => by clear hHeld; simp only [List.getElem_toArray, List.getElem_cons_succ, List.getElem_cons_zero]; go_simp⟩
        simp only [Act.put, List.getElem_toArray, List.getElem_cons_succ, List.getElem_cons_zero, List.setIfInBounds_toArray, List.set_cons_succ, List.set_cons_zero]
        refine wpAnyH_take (i := 5) (v := (.bool true)) rfl (by kernel_rfl) (by kernel_rfl) (by kernel_rfl) (fun _ _ _ h => (show False from h).elim) ?xyRB6 ?xhRB6 ?xrRB6
        case xhRB6 => exact hHeld
        case xyRB6 => exact Or.inl ⟨by rfl, fun W9 hW => by clear hHeld; simp only [List.getElem_toArray, List.getElem_cons_succ, List.getElem_cons_zero]; go_simp⟩
        simp only [Act.put, List.getElem_toArray, List.getElem_cons_succ, List.getElem_cons_zero, List.setIfInBounds_toArray, List.set_cons_succ, List.set_cons_zero]
        refine wpAnyH_take (i := 6) (v := (.bool true)) rfl (by kernel_rfl) (by kernel_rfl) (by kernel_rfl) (fun _ _ _ h => (show False from h).elim) ?xyRB7 ?xhRB7 ?xrRB7
        case xhRB7 => exact hHeld
        case xyRB7 => exact Or.inl ⟨by rfl, fun W9 hW => by clear hHeld; simp only [List.getElem_toArray, List.getElem_cons_succ, List.getElem_cons_zero]; go_simp⟩
        simp only [Act.put, List.getElem_toArray, List.getElem_cons_succ, List.getElem_cons_zero, List.setIfInBounds_toArray, List.set_cons_succ, List.set_cons_zero]
        refine wpAnyH_take (i := 7) (v := (.pointer (some ⟨lbx, 0, none⟩))) rfl (by kernel_rfl) (by kernel_rfl) (by kernel_rfl) (fun _ _ _ h => (show False from h).elim) ?xyRB8 ?xhRB8 ?xrRB8
        case xhRB8 => exact hHeld
        case xyRB8 => exact Or.inl ⟨by rfl, fun W9 hW => by clear hHeld; simp only [List.getElem_toArray, List.getElem_cons_succ, List.getElem_cons_zero]; go_simp⟩
        simp only [Act.put, List.getElem_toArray, List.getElem_cons_succ, List.getElem_cons_zero, List.setIfInBounds_toArray, List.set_cons_succ, List.set_cons_zero]
        refine wpAnyH_take (i := 9) (v := (.int .i64 (f : Int))) rfl (by kernel_rfl) (by kernel_rfl) (by kernel_rfl) (fun _ _ _ h => (show False from h).elim) ?xyRB9 ?xhRB9 ?xrRB9
        case xhRB9 => exact hHeld
        case xyRB9 => exact Or.inl ⟨by rfl, fun W9 hW => by clear hHeld; simp only [List.getElem_toArray, List.getElem_cons_succ, List.getElem_cons_zero]; go_simp⟩
        simp only [Act.put, List.getElem_toArray, List.getElem_cons_succ, List.getElem_cons_zero, List.setIfInBounds_toArray, List.set_cons_succ, List.set_cons_zero]
        refine wpAnyH_take (i := 10) (v := (.int .u64 (f : Int))) rfl (by kernel_rfl) (by kernel_rfl) (by kernel_rfl) (fun _ _ _ h => (show False from h).elim) ?xyRB10 ?xhRB10 ?xrRB10
        case xhRB10 => exact hHeld
        case xyRB10 => exact Or.inl ⟨by rfl, fun W9 hW => by clear hHeld; simp only [List.getElem_toArray, List.getElem_cons_succ, List.getElem_cons_zero]; go_simp⟩
        simp only [Act.put, List.getElem_toArray, List.getElem_cons_succ, List.getElem_cons_zero, List.setIfInBounds_toArray, List.set_cons_succ, List.set_cons_zero]
        refine wpAnyH_ready (rs := [8]) (by kernel_rfl) (by simp) ?_
        refine AllReadyH.cons rfl (fun K hK => ?_) AllReadyH.nil
        go_simp
        go_wp2_with (first | (go_at_call 16; refine CFd.out.mono ?_; rintro e w8 ⟨rfl, rfl⟩))
        refine hK.out _ _ (hid trivial) (fun hHeld => ?_)
        clear hK K
        refine wpAnyH_take (i := 11) (v := (.bool true)) rfl (by kernel_rfl) (by kernel_rfl) (by kernel_rfl) (fun _ _ _ h => (show False from h).elim) ?xyRB11 ?xhRB11 ?xrRB11
        case xhRB11 => exact hHeld
        case xyRB11 => exact Or.inl ⟨by rfl, fun W9 hW => by clear hHeld; simp only [List.getElem_toArray, List.getElem_cons_succ, List.getElem_cons_zero]; go_simp⟩
        simp only [Act.put, List.getElem_toArray, List.getElem_cons_succ, List.getElem_cons_zero, List.setIfInBounds_toArray, List.set_cons_succ, List.set_cons_zero]
        refine wpAnyH_take (i := 12) (v := (.bool true)) rfl (by kernel_rfl) (by kernel_rfl) (by kernel_rfl) (fun _ _ _ h => (show False from h).elim) ?xyRB12 ?xhRB12 ?xrRB12
        case xhRB12 => exact hHeld
        case xyRB12 => exact Or.inl ⟨by rfl, fun W9 hW => by clear hHeld; simp only [List.getElem_toArray, List.getElem_cons_succ, List.getElem_cons_zero]; go_simp⟩
        simp only [Act.put, List.getElem_toArray, List.getElem_cons_succ, List.getElem_cons_zero, List.setIfInBounds_toArray, List.set_cons_succ, List.set_cons_zero]
        refine wpAnyH_take (i := 13) (v := (.bool true)) rfl (by kernel_rfl) (by kernel_rfl) (by kernel_rfl) (fun _ _ _ h => (show False from h).elim) ?xyRB13 ?xhRB13 ?xrRB13
        case xhRB13 => exact hHeld
        case xyRB13 => exact Or.inl ⟨by rfl, fun W9 hW => by clear hHeld; simp only [List.getElem_toArray, List.getElem_cons_succ, List.getElem_cons_zero]; go_simp⟩
        simp only [Act.put, List.getElem_toArray, List.getElem_cons_succ, List.getElem_cons_zero, List.setIfInBounds_toArray, List.set_cons_succ, List.set_cons_zero]
        refine wpAnyH_take (i := 14) (v := (.pointer (some ⟨lbx, 0, none⟩))) rfl (by kernel_rfl) (by kernel_rfl) (by kernel_rfl) (fun _ _ _ h => (show False from h).elim) ?xyRB14 ?xhRB14 ?xrRB14
        case xhRB14 => exact hHeld
        case xyRB14 => exact Or.inl ⟨by rfl, fun W9 hW => by clear hHeld; simp only [List.getElem_toArray, List.getElem_cons_succ, List.getElem_cons_zero]; go_simp⟩
        simp only [Act.put, List.getElem_toArray, List.getElem_cons_succ, List.getElem_cons_zero, List.setIfInBounds_toArray, List.set_cons_succ, List.set_cons_zero]
        refine wpAnyH_take (i := 16) (v := (.slice xo k xc)) rfl (by kernel_rfl) (by kernel_rfl) (by kernel_rfl) (fun _ _ _ h => (show False from h).elim) ?xyRB15 ?xhRB15 ?xrRB15
        case xhRB15 => exact hHeld
        case xyRB15 => exact Or.inl ⟨by rfl, fun W9 hW => by clear hHeld; simp only [List.getElem_toArray, List.getElem_cons_succ, List.getElem_cons_zero]; go_simp⟩
        simp only [Act.put, List.getElem_toArray, List.getElem_cons_succ, List.getElem_cons_zero, List.setIfInBounds_toArray, List.set_cons_succ, List.set_cons_zero]
        refine wpAnyH_take (i := 17) (v := (.int .i64 (k : Int))) rfl (by kernel_rfl) (by kernel_rfl) (by kernel_rfl) (fun _ _ _ h => (show False from h).elim) ?xyRB16 ?xhRB16 ?xrRB16
        case xhRB16 => exact hHeld
        case xyRB16 => exact Or.inl ⟨by rfl, fun W9 hW => by clear hHeld; simp only [List.getElem_toArray, List.getElem_cons_succ, List.getElem_cons_zero]; go_simp⟩
        simp only [Act.put, List.getElem_toArray, List.getElem_cons_succ, List.getElem_cons_zero, List.setIfInBounds_toArray, List.set_cons_succ, List.set_cons_zero]
        refine wpAnyH_take (i := 18) (v := (.int .u64 (k : Int))) rfl (by kernel_rfl) (by kernel_rfl) (by kernel_rfl) (fun _ _ _ h => (show False from h).elim) ?xyRB17 ?xhRB17 ?xrRB17
        case xhRB17 => exact hHeld
        case xyRB17 => exact Or.inl ⟨by rfl, fun W9 hW => by clear hHeld; simp only [List.getElem_toArray, List.getElem_cons_succ, List.getElem_cons_zero]; go_simp⟩
        simp only [Act.put, List.getElem_toArray, List.getElem_cons_succ, List.getElem_cons_zero, List.setIfInBounds_toArray, List.set_cons_succ, List.set_cons_zero]
        refine wpAnyH_ready (rs := [15]) (by kernel_rfl) (by simp) ?_
        refine AllReadyH.cons rfl (fun K hK => ?_) AllReadyH.nil
        go_simp
        go_wp2_with (first | (go_at_call 15; refine CXd.out.mono ?_; rintro e w9 ⟨rfl, m9, rfl⟩))
        refine hK.out _ _ (hid trivial) (fun hHeld => ?_)
        clear hK K
        have hWe := HWd.out.trans (HWm.out _ m9 HWd.out)
        have CRd := hid (CR.out _ hWe)
        have HWe := hid hWe
        clear hWe
        refine wpAnyH_take (i := 19) (v := (.bool true)) rfl (by kernel_rfl) (by kernel_rfl) (by kernel_rfl) (fun _ _ _ h => (show False from h).elim) ?xyRB18 ?xhRB18 ?xrRB18
        case xhRB18 => exact hHeld
        case xyRB18 => exact Or.inl ⟨by rfl, fun W9 hW => by clear hHeld; simp only [List.getElem_toArray, List.getElem_cons_succ, List.getElem_cons_zero]; go_simp⟩
        simp only [Act.put, List.getElem_toArray, List.getElem_cons_succ, List.getElem_cons_zero, List.setIfInBounds_toArray, List.set_cons_succ, List.set_cons_zero]
        refine wpAnyH_take (i := 20) (v := (.bool true)) rfl (by kernel_rfl) (by kernel_rfl) (by kernel_rfl) (fun _ _ _ h => (show False from h).elim) ?xyRB19 ?xhRB19 ?xrRB19
        case xhRB19 => exact hHeld
        case xyRB19 => exact Or.inl ⟨by rfl, fun W9 hW => by clear hHeld; simp only [List.getElem_toArray, List.getElem_cons_succ, List.getElem_cons_zero]; go_simp⟩
        simp only [Act.put, List.getElem_toArray, List.getElem_cons_succ, List.getElem_cons_zero, List.setIfInBounds_toArray, List.set_cons_succ, List.set_cons_zero]
        refine wpAnyH_take (i := 21) (v := (.bool true)) rfl (by kernel_rfl) (by kernel_rfl) (by kernel_rfl) (fun _ _ _ h => (show False from h).elim) ?xyRB20 ?xhRB20 ?xrRB20
        case xhRB20 => exact hHeld
        case xyRB20 => exact Or.inl ⟨by rfl, fun W9 hW => by clear hHeld; simp only [List.getElem_toArray, List.getElem_cons_succ, List.getElem_cons_zero]; go_simp⟩
        simp only [Act.put, List.getElem_toArray, List.getElem_cons_succ, List.getElem_cons_zero, List.setIfInBounds_toArray, List.set_cons_succ, List.set_cons_zero]
        refine wpAnyH_take (i := 22) (v := (.pointer (some ⟨lbx, 0, none⟩))) rfl (by kernel_rfl) (by kernel_rfl) (by kernel_rfl) (fun _ _ _ h => (show False from h).elim) ?xyRB21 ?xhRB21 ?xrRB21
        case xhRB21 => exact hHeld
        case xyRB21 => exact Or.inl ⟨by rfl, fun W9 hW => by clear hHeld; simp only [List.getElem_toArray, List.getElem_cons_succ, List.getElem_cons_zero]; go_simp⟩
        simp only [Act.put, List.getElem_toArray, List.getElem_cons_succ, List.getElem_cons_zero, List.setIfInBounds_toArray, List.set_cons_succ, List.set_cons_zero]
        refine wpAnyH_take (i := 24) (v := (.slice xo k xc)) rfl (by kernel_rfl) (by kernel_rfl) (by kernel_rfl) (fun _ _ _ h => (show False from h).elim) ?xyRB22 ?xhRB22 ?xrRB22
        case xhRB22 => exact hHeld
        case xyRB22 => exact Or.inl ⟨by rfl, fun W9 hW => by clear hHeld; simp only [List.getElem_toArray, List.getElem_cons_succ, List.getElem_cons_zero]; go_simp⟩
        simp only [Act.put, List.getElem_toArray, List.getElem_cons_succ, List.getElem_cons_zero, List.setIfInBounds_toArray, List.set_cons_succ, List.set_cons_zero]
        refine wpAnyH_take (i := 25) (v := (.int .i64 (f : Int))) rfl (by kernel_rfl) (by kernel_rfl) (by kernel_rfl) (fun _ _ _ h => (show False from h).elim) ?xyRB23 ?xhRB23 ?xrRB23
        case xhRB23 => exact hHeld
        case xyRB23 => exact Or.inl ⟨by rfl, fun W9 hW => by clear hHeld; simp only [List.getElem_toArray, List.getElem_cons_succ, List.getElem_cons_zero]; go_simp⟩
        simp only [Act.put, List.getElem_toArray, List.getElem_cons_succ, List.getElem_cons_zero, List.setIfInBounds_toArray, List.set_cons_succ, List.set_cons_zero]
        refine wpAnyH_take (i := 26) (v := (.slice zo zn zc)) rfl (by kernel_rfl) (by kernel_rfl) (by kernel_rfl) (fun _ _ _ h => (show False from h).elim) ?xyRB24 ?xhRB24 ?xrRB24
        case xhRB24 => exact hHeld
        case xyRB24 => exact Or.inl ⟨by rfl, fun W9 hW => by clear hHeld; simp only [List.getElem_toArray, List.getElem_cons_succ, List.getElem_cons_zero]; go_simp⟩
        simp only [Act.put, List.getElem_toArray, List.getElem_cons_succ, List.getElem_cons_zero, List.setIfInBounds_toArray, List.set_cons_succ, List.set_cons_zero]
        refine wpAnyH_ready (rs := [23]) (by kernel_rfl) (by simp) ?_
        refine AllReadyH.cons rfl (fun K hK => ?_) AllReadyH.nil
        go_simp
        go_wp2_with (first | (go_at_call 18; refine CRd.out.mono ?_; rintro e wA ⟨y, R', rfl, hy, hR', hbA⟩; have HyB := hid (And.intro (Rown.bss hy) (And.intro hR' (HWe.out.trans (hbA.mono HWe.out.size)))); clear hy hR' hbA))
        refine hK.out _ _ (hid trivial) (fun hHeld => ?_)
        clear hK K
        refine wpAnyH_ready (rs := [27]) (by kernel_rfl) (by simp) ?_
        refine AllReadyH.cons rfl (fun K hK => ?_) AllReadyH.nil
        go_simp
        go_wp2_with (first | (go_at_call 17; refine (CSm.out _ _ _ HyB.out.1 HyB.out.2.1 HyB.out.2.2).mono ?_; rintro e wB ⟨rfl, hbB⟩))
        refine hK.out _ _ (hid trivial) (fun hHeld => ?_)
        clear hK K
        refine wpAnyH_take (i := 28) (v := (.bool true)) rfl (by kernel_rfl) (by kernel_rfl) (by kernel_rfl) (fun _ _ _ h => (show False from h).elim) ?xyRB25 ?xhRB25 ?xrRB25
        case xhRB25 => exact hHeld
        case xyRB25 => exact Or.inl ⟨by rfl, fun W9 hW => by clear hHeld; simp only [List.getElem_toArray, List.getElem_cons_succ, List.getElem_cons_zero]; go_simp⟩
        simp only [Act.put, List.getElem_toArray, List.getElem_cons_succ, List.getElem_cons_zero, List.setIfInBounds_toArray, List.set_cons_succ, List.set_cons_zero]
        refine wpAnyH_take (i := 29) (v := (.bool true)) rfl (by kernel_rfl) (by kernel_rfl) (by kernel_rfl) (fun _ _ _ h => (show False from h).elim) ?xyRB26 ?xhRB26 ?xrRB26
        case xhRB26 => exact hHeld
        case xyRB26 => exact Or.inl ⟨by rfl, fun W9 hW => by clear hHeld; simp only [List.getElem_toArray, List.getElem_cons_succ, List.getElem_cons_zero]; go_simp⟩
        simp only [Act.put, List.getElem_toArray, List.getElem_cons_succ, List.getElem_cons_zero, List.setIfInBounds_toArray, List.set_cons_succ, List.set_cons_zero]
        refine wpAnyH_done (by kernel_rfl) ?_ _
        refine NoPanic.normal ?_
        have HBB : Hid (Below W7.heap.size W7 wB) := HyB.out.2.2.trans (hbB.mono HyB.out.2.2.size)
        clear hbB
        go_wp2_with fail
        go_ret
        exact ⟨rfl, HBX.out.trans (HBB.out.mono HBX.out.size)⟩
    · have hkn : ¬ (k : Int) < (n0 : Int) := by omega
      have CSy := hid (St.sync HS.out.2.2)
      have HRA : Hid (RA.length = k ∧ ∀ r ∈ RA, Rd w (rcv r) r.b) := ⟨HS.out.1, HS.out.2.1⟩
      clear HS
      go_upto_region 26 with (first | (go_at_call 12; refine CSy.out.mono ?_; rintro e w6 ⟨rfl, hS6⟩))
      have hall := St.all hS6 HRA.out.2
      obtain ⟨vw7, rv7, R7, hL7, hm7, -, -, -, hb7⟩ := hS6
      have hlen7 : f + R7.length = k := by
        have h1 := congrArg List.length hm7
        have h2 := HRA.out.1
        simp at h1
        omega
      have CO := hid (open_D hL7 (by omega) (by omega) (by omega))
      have HM7 := hid hm7
      have HLEN7 := hid hlen7
      have HALL := hid hall
      have HB7 := hid hb7
      clear hall hL7 hm7 hb7 hlen7
      go_wp2_with (first | (go_at_call 8; refine CO.out.mono ?_))
      rintro e W7 ⟨lbx, rvx, Rx, rfl, hRx, hLx, hbx⟩
      have hlenx : f + Rx.length = k := by
        have h1 := congrArg List.length hRx
        have h2 := HLEN7.out
        simp at h1
        omega
      have hWd : Below W7.heap.size W7 W7.drew := ⟨rfl, rfl, rfl, Nat.le_refl _, fun _ _ => rfl⟩
      have CFd := hid (first_live (hLx.old hWd))
      have CXd0 := next_live (hLx.old hWd) (by omega)
      rw [hlenx] at CXd0
      have CXd := hid CXd0
      have CR : Hid (∀ W, Below W7.heap.size W7 W → Calls Tryd.prog 18 #[.pointer (some ⟨lbx, 0, none⟩)] W (RecordsA Rx W)) := hid fun W hW => records_live (hLx.old hW) (by omega)
      obtain ⟨zo, zc, hzs, hzb⟩ := (HALL.out.old hbx).cut f (by have := HRA.out.1; omega)
      obtain ⟨zn, hzn⟩ : ∃ zn, zn = RA.length - f := ⟨_, rfl⟩
      rw [← hzn] at hzs hzb
      have CSm : Hid (∀ W2 y R', Bss W2 y R' → R'.map (·.b) = Rx.map (·.b) → Below W7.heap.size W7 W2 → Calls Tryd.prog 17 #[y, .slice zo zn zc, .func (.func 19) #[] #[]] W2 (AnsP W2 (.bool true))) := hid fun W2 y R' q1 q2 q3 => same_bs _ _ _ _ _ q1 (hzb.old q3) (by rw [q2, hRx, HM7.out])
      have hlall := fun W => run_len_slice (P := Tryd.prog) W 22 3 xo k xc Tryd.underlying22
      have HWm : Hid (∀ W m, Below W7.heap.size W7 W → Below W7.heap.size W (W.drewN m)) := hid fun W m hb => ⟨rfl, rfl, rfl, Nat.le_refl _, fun _ _ => rfl⟩
      have hu1 : IntKind.u64.wrap (f : Int) = (f : Int) := by rw [wrap_u64]; omega
      have hu2 : IntKind.u64.wrap (k : Int) = (k : Int) := by rw [wrap_u64]; omega
      have HWd := hid hWd
      have HBX : Hid (Below w.heap.size w W7) := HB7.out.trans (hbx.mono HB7.out.size)
      clear hWd CXd0 hlenx hRx hLx hbx hzb hzn
      go_upto_region 27 with fail
      refine wp_region_noPanic ?_
      refine wp_region_held_drew (S := fun _ => Hid True) (by kernel_rfl) (hid trivial) (fun hHeld => ?_)
      generalize W7.drew = Wd at *
      refine wpAnyH_take (i := 0) (v := (.int .i64 0)) rfl (by kernel_rfl) (by kernel_rfl) (by kernel_rfl) (fun _ _ _ h => (show False from h).elim) ?xyRC1 ?xhRC1 ?xrRC1
      case xhRC1 => exact hHeld
      case xyRC1 => exact Or.inl ⟨by rfl, fun W9 hW => by clear hHeld; simp only [List.getElem_toArray, List.getElem_cons_succ, List.getElem_cons_zero]; go_simp⟩
      simp only [Act.put, List.getElem_toArray, List.getElem_cons_succ, List.getElem_cons_zero, List.setIfInBounds_toArray, List.set_cons_succ, List.set_cons_zero]
      refine wpAnyH_take (i := 1) (v := (.bool true)) rfl (by kernel_rfl) (by kernel_rfl) (by kernel_rfl) (fun _ _ _ h => (show False from h).elim) ?xyRC2 ?xhRC2 ?xrRC2
      case xhRC2 => exact hHeld
      case xyRC2 => exact Or.inl ⟨by rfl, fun W9 hW => by clear hHeld; simp only [List.getElem_toArray, List.getElem_cons_succ, List.getElem_cons_zero]; go_simp⟩
      simp only [Act.put, List.getElem_toArray, List.getElem_cons_succ, List.getElem_cons_zero, List.setIfInBounds_toArray, List.set_cons_succ, List.set_cons_zero]
      refine wpAnyH_take (i := 2) (v := (.bool true)) rfl (by kernel_rfl) (by kernel_rfl) (by kernel_rfl) (fun _ _ _ h => (show False from h).elim) ?xyRC3 ?xhRC3 ?xrRC3
      case xhRC3 => exact hHeld
      case xyRC3 => exact Or.inl ⟨by rfl, fun W9 hW => by clear hHeld; simp only [List.getElem_toArray, List.getElem_cons_succ, List.getElem_cons_zero]; go_simp⟩
      simp only [Act.put, List.getElem_toArray, List.getElem_cons_succ, List.getElem_cons_zero, List.setIfInBounds_toArray, List.set_cons_succ, List.set_cons_zero]
      refine wpAnyH_take (i := 3) (v := (.pointer (some ⟨lbx, 0, none⟩))) rfl (by kernel_rfl) (by kernel_rfl) (by kernel_rfl) (fun _ _ _ h => (show False from h).elim) ?xyRC4 ?xhRC4 ?xrRC4
      case xhRC4 => exact hHeld
      case xyRC4 => exact Or.inl ⟨by rfl, fun W9 hW => by clear hHeld; simp only [List.getElem_toArray, List.getElem_cons_succ, List.getElem_cons_zero]; go_simp⟩
      simp only [Act.put, List.getElem_toArray, List.getElem_cons_succ, List.getElem_cons_zero, List.setIfInBounds_toArray, List.set_cons_succ, List.set_cons_zero]
      refine wpAnyH_take (i := 4) (v := (.bool true)) rfl (by kernel_rfl) (by kernel_rfl) (by kernel_rfl) (fun _ _ _ h => (show False from h).elim) ?xyRC5 ?xhRC5 ?xrRC5
      case xhRC5 => exact hHeld
      case xyRC5 => exact Or.inl ⟨by rfl, fun W9 hW => by clear hHeld; simp only [List.getElem_toArray, List.getElem_cons_succ, List.getElem_cons_zero]; go_simp⟩
      simp only [Act.put, List.getElem_toArray, List.getElem_cons_succ, List.getElem_cons_zero, List.setIfInBounds_toArray, List.set_cons_succ, List.set_cons_zero]
      refine wpAnyH_take (i := 5) (v := (.bool true)) rfl (by kernel_rfl) (by kernel_rfl) (by kernel_rfl) (fun _ _ _ h => (show False from h).elim) ?xyRC6 ?xhRC6 ?xrRC6
      case xhRC6 => exact hHeld
      case xyRC6 => exact Or.inl ⟨by rfl, fun W9 hW => by clear hHeld; simp only [List.getElem_toArray, List.getElem_cons_succ, List.getElem_cons_zero]; go_simp⟩
      simp only [Act.put, List.getElem_toArray, List.getElem_cons_succ, List.getElem_cons_zero, List.setIfInBounds_toArray, List.set_cons_succ, List.set_cons_zero]
      refine wpAnyH_take (i := 6) (v := (.bool true)) rfl (by kernel_rfl) (by kernel_rfl) (by kernel_rfl) (fun _ _ _ h => (show False from h).elim) ?xyRC7 ?xhRC7 ?xrRC7
      case xhRC7 => exact hHeld
      case xyRC7 => exact Or.inl ⟨by rfl, fun W9 hW => by clear hHeld; simp only [List.getElem_toArray, List.getElem_cons_succ, List.getElem_cons_zero]; go_simp⟩
      simp only [Act.put, List.getElem_toArray, List.getElem_cons_succ, List.getElem_cons_zero, List.setIfInBounds_toArray, List.set_cons_succ, List.set_cons_zero]
      refine wpAnyH_take (i := 7) (v := (.pointer (some ⟨lbx, 0, none⟩))) rfl (by kernel_rfl) (by kernel_rfl) (by kernel_rfl) (fun _ _ _ h => (show False from h).elim) ?xyRC8 ?xhRC8 ?xrRC8
      case xhRC8 => exact hHeld
      case xyRC8 => exact Or.inl ⟨by rfl, fun W9 hW => by clear hHeld; simp only [List.getElem_toArray, List.getElem_cons_succ, List.getElem_cons_zero]; go_simp⟩
      simp only [Act.put, List.getElem_toArray, List.getElem_cons_succ, List.getElem_cons_zero, List.setIfInBounds_toArray, List.set_cons_succ, List.set_cons_zero]
      refine wpAnyH_take (i := 9) (v := (.int .i64 (f : Int))) rfl (by kernel_rfl) (by kernel_rfl) (by kernel_rfl) (fun _ _ _ h => (show False from h).elim) ?xyRC9 ?xhRC9 ?xrRC9
      case xhRC9 => exact hHeld
      case xyRC9 => exact Or.inl ⟨by rfl, fun W9 hW => by clear hHeld; simp only [List.getElem_toArray, List.getElem_cons_succ, List.getElem_cons_zero]; go_simp⟩
      simp only [Act.put, List.getElem_toArray, List.getElem_cons_succ, List.getElem_cons_zero, List.setIfInBounds_toArray, List.set_cons_succ, List.set_cons_zero]
      refine wpAnyH_take (i := 10) (v := (.int .u64 (f : Int))) rfl (by kernel_rfl) (by kernel_rfl) (by kernel_rfl) (fun _ _ _ h => (show False from h).elim) ?xyRC10 ?xhRC10 ?xrRC10
      case xhRC10 => exact hHeld
      case xyRC10 => exact Or.inl ⟨by rfl, fun W9 hW => by clear hHeld; simp only [List.getElem_toArray, List.getElem_cons_succ, List.getElem_cons_zero]; go_simp⟩
      simp only [Act.put, List.getElem_toArray, List.getElem_cons_succ, List.getElem_cons_zero, List.setIfInBounds_toArray, List.set_cons_succ, List.set_cons_zero]
      refine wpAnyH_ready (rs := [8]) (by kernel_rfl) (by simp) ?_
      refine AllReadyH.cons rfl (fun K hK => ?_) AllReadyH.nil
      go_simp
      go_wp2_with (first | (go_at_call 16; refine CFd.out.mono ?_; rintro e w8 ⟨rfl, rfl⟩))
      refine hK.out _ _ (hid trivial) (fun hHeld => ?_)
      clear hK K
      refine wpAnyH_take (i := 11) (v := (.bool true)) rfl (by kernel_rfl) (by kernel_rfl) (by kernel_rfl) (fun _ _ _ h => (show False from h).elim) ?xyRC11 ?xhRC11 ?xrRC11
      case xhRC11 => exact hHeld
      case xyRC11 => exact Or.inl ⟨by rfl, fun W9 hW => by clear hHeld; simp only [List.getElem_toArray, List.getElem_cons_succ, List.getElem_cons_zero]; go_simp⟩
      simp only [Act.put, List.getElem_toArray, List.getElem_cons_succ, List.getElem_cons_zero, List.setIfInBounds_toArray, List.set_cons_succ, List.set_cons_zero]
      refine wpAnyH_take (i := 12) (v := (.bool true)) rfl (by kernel_rfl) (by kernel_rfl) (by kernel_rfl) (fun _ _ _ h => (show False from h).elim) ?xyRC12 ?xhRC12 ?xrRC12
      case xhRC12 => exact hHeld
      case xyRC12 => exact Or.inl ⟨by rfl, fun W9 hW => by clear hHeld; simp only [List.getElem_toArray, List.getElem_cons_succ, List.getElem_cons_zero]; go_simp⟩
      simp only [Act.put, List.getElem_toArray, List.getElem_cons_succ, List.getElem_cons_zero, List.setIfInBounds_toArray, List.set_cons_succ, List.set_cons_zero]
      refine wpAnyH_take (i := 13) (v := (.bool true)) rfl (by kernel_rfl) (by kernel_rfl) (by kernel_rfl) (fun _ _ _ h => (show False from h).elim) ?xyRC13 ?xhRC13 ?xrRC13
      case xhRC13 => exact hHeld
      case xyRC13 => exact Or.inl ⟨by rfl, fun W9 hW => by clear hHeld; simp only [List.getElem_toArray, List.getElem_cons_succ, List.getElem_cons_zero]; go_simp⟩
      simp only [Act.put, List.getElem_toArray, List.getElem_cons_succ, List.getElem_cons_zero, List.setIfInBounds_toArray, List.set_cons_succ, List.set_cons_zero]
      refine wpAnyH_take (i := 14) (v := (.pointer (some ⟨lbx, 0, none⟩))) rfl (by kernel_rfl) (by kernel_rfl) (by kernel_rfl) (fun _ _ _ h => (show False from h).elim) ?xyRC14 ?xhRC14 ?xrRC14
      case xhRC14 => exact hHeld
      case xyRC14 => exact Or.inl ⟨by rfl, fun W9 hW => by clear hHeld; simp only [List.getElem_toArray, List.getElem_cons_succ, List.getElem_cons_zero]; go_simp⟩
      simp only [Act.put, List.getElem_toArray, List.getElem_cons_succ, List.getElem_cons_zero, List.setIfInBounds_toArray, List.set_cons_succ, List.set_cons_zero]
      refine wpAnyH_take (i := 16) (v := (.slice xo k xc)) rfl (by kernel_rfl) (by kernel_rfl) (by kernel_rfl) (fun _ _ _ h => (show False from h).elim) ?xyRC15 ?xhRC15 ?xrRC15
      case xhRC15 => exact hHeld
      case xyRC15 => exact Or.inl ⟨by rfl, fun W9 hW => by clear hHeld; simp only [List.getElem_toArray, List.getElem_cons_succ, List.getElem_cons_zero]; go_simp⟩
      simp only [Act.put, List.getElem_toArray, List.getElem_cons_succ, List.getElem_cons_zero, List.setIfInBounds_toArray, List.set_cons_succ, List.set_cons_zero]
      refine wpAnyH_take (i := 17) (v := (.int .i64 (k : Int))) rfl (by kernel_rfl) (by kernel_rfl) (by kernel_rfl) (fun _ _ _ h => (show False from h).elim) ?xyRC16 ?xhRC16 ?xrRC16
      case xhRC16 => exact hHeld
      case xyRC16 => exact Or.inl ⟨by rfl, fun W9 hW => by clear hHeld; simp only [List.getElem_toArray, List.getElem_cons_succ, List.getElem_cons_zero]; go_simp⟩
      simp only [Act.put, List.getElem_toArray, List.getElem_cons_succ, List.getElem_cons_zero, List.setIfInBounds_toArray, List.set_cons_succ, List.set_cons_zero]
      refine wpAnyH_take (i := 18) (v := (.int .u64 (k : Int))) rfl (by kernel_rfl) (by kernel_rfl) (by kernel_rfl) (fun _ _ _ h => (show False from h).elim) ?xyRC17 ?xhRC17 ?xrRC17
      case xhRC17 => exact hHeld
      case xyRC17 => exact Or.inl ⟨by rfl, fun W9 hW => by clear hHeld; simp only [List.getElem_toArray, List.getElem_cons_succ, List.getElem_cons_zero]; go_simp⟩
      simp only [Act.put, List.getElem_toArray, List.getElem_cons_succ, List.getElem_cons_zero, List.setIfInBounds_toArray, List.set_cons_succ, List.set_cons_zero]
      refine wpAnyH_ready (rs := [15]) (by kernel_rfl) (by simp) ?_
      refine AllReadyH.cons rfl (fun K hK => ?_) AllReadyH.nil
      go_simp
      go_wp2_with (first | (go_at_call 15; refine CXd.out.mono ?_; rintro e w9 ⟨rfl, m9, rfl⟩))
      refine hK.out _ _ (hid trivial) (fun hHeld => ?_)
      clear hK K
      have hWe := HWd.out.trans (HWm.out _ m9 HWd.out)
      have CRd := hid (CR.out _ hWe)
      have HWe := hid hWe
      clear hWe
      refine wpAnyH_take (i := 19) (v := (.bool true)) rfl (by kernel_rfl) (by kernel_rfl) (by kernel_rfl) (fun _ _ _ h => (show False from h).elim) ?xyRC18 ?xhRC18 ?xrRC18
      case xhRC18 => exact hHeld
      case xyRC18 => exact Or.inl ⟨by rfl, fun W9 hW => by clear hHeld; simp only [List.getElem_toArray, List.getElem_cons_succ, List.getElem_cons_zero]; go_simp⟩
      simp only [Act.put, List.getElem_toArray, List.getElem_cons_succ, List.getElem_cons_zero, List.setIfInBounds_toArray, List.set_cons_succ, List.set_cons_zero]
      refine wpAnyH_take (i := 20) (v := (.bool true)) rfl (by kernel_rfl) (by kernel_rfl) (by kernel_rfl) (fun _ _ _ h => (show False from h).elim) ?xyRC19 ?xhRC19 ?xrRC19
      case xhRC19 => exact hHeld
      case xyRC19 => exact Or.inl ⟨by rfl, fun W9 hW => by clear hHeld; simp only [List.getElem_toArray, List.getElem_cons_succ, List.getElem_cons_zero]; go_simp⟩
      simp only [Act.put, List.getElem_toArray, List.getElem_cons_succ, List.getElem_cons_zero, List.setIfInBounds_toArray, List.set_cons_succ, List.set_cons_zero]
      refine wpAnyH_take (i := 21) (v := (.bool true)) rfl (by kernel_rfl) (by kernel_rfl) (by kernel_rfl) (fun _ _ _ h => (show False from h).elim) ?xyRC20 ?xhRC20 ?xrRC20
      case xhRC20 => exact hHeld
      case xyRC20 => exact Or.inl ⟨by rfl, fun W9 hW => by clear hHeld; simp only [List.getElem_toArray, List.getElem_cons_succ, List.getElem_cons_zero]; go_simp⟩
      simp only [Act.put, List.getElem_toArray, List.getElem_cons_succ, List.getElem_cons_zero, List.setIfInBounds_toArray, List.set_cons_succ, List.set_cons_zero]
      refine wpAnyH_take (i := 22) (v := (.pointer (some ⟨lbx, 0, none⟩))) rfl (by kernel_rfl) (by kernel_rfl) (by kernel_rfl) (fun _ _ _ h => (show False from h).elim) ?xyRC21 ?xhRC21 ?xrRC21
      case xhRC21 => exact hHeld
      case xyRC21 => exact Or.inl ⟨by rfl, fun W9 hW => by clear hHeld; simp only [List.getElem_toArray, List.getElem_cons_succ, List.getElem_cons_zero]; go_simp⟩
      simp only [Act.put, List.getElem_toArray, List.getElem_cons_succ, List.getElem_cons_zero, List.setIfInBounds_toArray, List.set_cons_succ, List.set_cons_zero]
      refine wpAnyH_take (i := 24) (v := (.slice xo k xc)) rfl (by kernel_rfl) (by kernel_rfl) (by kernel_rfl) (fun _ _ _ h => (show False from h).elim) ?xyRC22 ?xhRC22 ?xrRC22
      case xhRC22 => exact hHeld
      case xyRC22 => exact Or.inl ⟨by rfl, fun W9 hW => by clear hHeld; simp only [List.getElem_toArray, List.getElem_cons_succ, List.getElem_cons_zero]; go_simp⟩
      simp only [Act.put, List.getElem_toArray, List.getElem_cons_succ, List.getElem_cons_zero, List.setIfInBounds_toArray, List.set_cons_succ, List.set_cons_zero]
      refine wpAnyH_take (i := 25) (v := (.int .i64 (f : Int))) rfl (by kernel_rfl) (by kernel_rfl) (by kernel_rfl) (fun _ _ _ h => (show False from h).elim) ?xyRC23 ?xhRC23 ?xrRC23
      case xhRC23 => exact hHeld
      case xyRC23 => exact Or.inl ⟨by rfl, fun W9 hW => by clear hHeld; simp only [List.getElem_toArray, List.getElem_cons_succ, List.getElem_cons_zero]; go_simp⟩
      simp only [Act.put, List.getElem_toArray, List.getElem_cons_succ, List.getElem_cons_zero, List.setIfInBounds_toArray, List.set_cons_succ, List.set_cons_zero]
      refine wpAnyH_take (i := 26) (v := (.slice zo zn zc)) rfl (by kernel_rfl) (by kernel_rfl) (by kernel_rfl) (fun _ _ _ h => (show False from h).elim) ?xyRC24 ?xhRC24 ?xrRC24
      case xhRC24 => exact hHeld
      case xyRC24 => exact Or.inl ⟨by rfl, fun W9 hW => by clear hHeld; simp only [List.getElem_toArray, List.getElem_cons_succ, List.getElem_cons_zero]; go_simp⟩
      simp only [Act.put, List.getElem_toArray, List.getElem_cons_succ, List.getElem_cons_zero, List.setIfInBounds_toArray, List.set_cons_succ, List.set_cons_zero]
      refine wpAnyH_ready (rs := [23]) (by kernel_rfl) (by simp) ?_
      refine AllReadyH.cons rfl (fun K hK => ?_) AllReadyH.nil
      go_simp
      go_wp2_with (first | (go_at_call 18; refine CRd.out.mono ?_; rintro e wA ⟨y, R', rfl, hy, hR', hbA⟩; have HyB := hid (And.intro (Rown.bss hy) (And.intro hR' (HWe.out.trans (hbA.mono HWe.out.size)))); clear hy hR' hbA))
      refine hK.out _ _ (hid trivial) (fun hHeld => ?_)
      clear hK K
      refine wpAnyH_ready (rs := [27]) (by kernel_rfl) (by simp) ?_
      refine AllReadyH.cons rfl (fun K hK => ?_) AllReadyH.nil
      go_simp
      go_wp2_with (first | (go_at_call 17; refine (CSm.out _ _ _ HyB.out.1 HyB.out.2.1 HyB.out.2.2).mono ?_; rintro e wB ⟨rfl, hbB⟩))
      refine hK.out _ _ (hid trivial) (fun hHeld => ?_)
      clear hK K
      refine wpAnyH_take (i := 28) (v := (.bool true)) rfl (by kernel_rfl) (by kernel_rfl) (by kernel_rfl) (fun _ _ _ h => (show False from h).elim) ?xyRC25 ?xhRC25 ?xrRC25
      case xhRC25 => exact hHeld
      case xyRC25 => exact Or.inl ⟨by rfl, fun W9 hW => by clear hHeld; simp only [List.getElem_toArray, List.getElem_cons_succ, List.getElem_cons_zero]; go_simp⟩
      simp only [Act.put, List.getElem_toArray, List.getElem_cons_succ, List.getElem_cons_zero, List.setIfInBounds_toArray, List.set_cons_succ, List.set_cons_zero]
      refine wpAnyH_take (i := 29) (v := (.bool true)) rfl (by kernel_rfl) (by kernel_rfl) (by kernel_rfl) (fun _ _ _ h => (show False from h).elim) ?xyRC26 ?xhRC26 ?xrRC26
      case xhRC26 => exact hHeld
      case xyRC26 => exact Or.inl ⟨by rfl, fun W9 hW => by clear hHeld; simp only [List.getElem_toArray, List.getElem_cons_succ, List.getElem_cons_zero]; go_simp⟩
      simp only [Act.put, List.getElem_toArray, List.getElem_cons_succ, List.getElem_cons_zero, List.setIfInBounds_toArray, List.set_cons_succ, List.set_cons_zero]
      refine wpAnyH_done (by kernel_rfl) ?_ _
      refine NoPanic.normal ?_
      have HBB : Hid (Below W7.heap.size W7 wB) := HyB.out.2.2.trans (hbB.mono HyB.out.2.2.size)
      clear hbB
      go_wp2_with fail
      go_ret
      exact ⟨rfl, HBX.out.trans (HBB.out.mono HBX.out.size)⟩

theorem bools_open {H : Type} {enc : TypeId × Value → H} {W : World} {a : Option Addr} {len cap : Nat} {d : DataW H} {p : List MemPlace} (h : DataW.Trod enc Tryd.prog W 0 (fun _ => true) true 47 (.slice a len cap) d p) : len ≤ cap ∧ cap ≤ maxLen ∧ Bools W a len := bools_rd h
theorem walk {H : Type} {enc : TypeId × Value → H} {base : Nat} {d0 d1 d2 : DataW H} {p0 p1 p2 : List MemPlace} (v0 v1 v2 : Value) (w : World)
    (k0 : Value.okWide Tryd.prog w .any base 22 v0) (t0 : DataW.Trod enc Tryd.prog w 0 (fun _ => true) true 22 v0 d0 p0)
    (k1 : Value.okWide Tryd.prog w .any base 47 v1) (t1 : DataW.Trod enc Tryd.prog w 0 (fun _ => true) true 47 v1 d1 p1)
    (k2 : Value.okWide Tryd.prog w .any base 23 v2) (t2 : DataW.Trod enc Tryd.prog w 0 (fun _ => true) true 23 v2 d2 p2) :
    Calls Tryd.prog 6 #[v0, v1, v2] w (AnsP w (.bool true)) := by
  obtain ⟨a0, n0, c0, rfl⟩ := WideShapes.okWide_slice Tryd.underlying22 k0
  obtain ⟨a1, n1, c1, rfl⟩ := WideShapes.okWide_slice Tryd.underlying47 k1
  obtain ⟨a2, n2, c2, rfl⟩ := WideShapes.okWide_slice Tryd.underlying23 k2
  obtain ⟨RI, rfl, hI⟩ := bss_open t0
  obtain ⟨b1, b2, b3⟩ := bools_open t1
  obtain ⟨e1, e2, e3⟩ := nums_open t2
  exact walk0 a0 a1 a2 n1 n2 c0 c1 c2 RI w hI b3 b1 b2 e3 e1 e2
end Go.Proofs.YtcbbklbjfknnlaaDoor.walSame
