/-
  PAGES: Put.
-/
import Derived.Test.YtcgnghkjkdkmmaaGw
import Derived.Test.YtcgnghkjkdkmmaaGch
import Derived.Test.YtcgnghkjkdkmmaaGo
import Derived.Deep.CutRange
import Derived.Deep.CutBlock
import Derived.Deep.RegionWith
set_option linter.unusedVariables false
namespace Go.Proofs.Ytcgnghkjkdkmmaa
open Go.RowKit Go.Shelf

/-- Why a pair may not be there. -/
def mayE (m : Lp) : Int := if m.key.length = 0 ∨ 600 < m.key.length then 1 else if 1000 < m.val.length then 10 else 0

/-- A pair whose bytes lie in new memory. -/
def NewP (n : Nat) (m : Lp) : Prop := (∀ a, m.ka = some a → n ≤ a.block) ∧ (∀ a, m.va = some a → n ≤ a.block)

/-- What a change of a live map gives: the pairs are L. -/
structure Turned (base mb : Nat) (v : Value) (G : List Pg) (L : List Lp) (w w' : World) (v' : Value) (G' : List Pg) : Prop where
  mp : Mp base w' mb v' G'
  fit : Fit G'
  flat : (mls G').flatten = L
  keep : Keep (MX mb v) w w'
  vnew : ∀ k, v'.ownBlock = some k → v.ownBlock = some k ∨ w.heap.size ≤ k
  pages : ∀ g ∈ G', g ∈ G ∨ ∀ a, g.a = some a → w.heap.size ≤ a.block
  pairs : ∀ x ∈ (mls G').flatten, x ∈ (mls G).flatten ∨ NewP w.heap.size x

set_option maxHeartbeats 8000000 in
set_option maxRecDepth 100000 in
theorem put_no (q : Option Addr) (m : Lp) (w : World) (hm : RdP w m) (hno : q = none ∨ mayE m ≠ 0) :
    Calls Try.prog 20 #[.pointer q, pv m] w (AnsP w (.int .i64 (if q = none then 2 else mayE m))) := by
  have o1 := one_rd hm.1
  have o2 := one_rd hm.2
  have HB := hid ((Below.refl w.heap.size w).alloc (Nat.le_refl _) (.cells #[(.slice m.ka m.key.length m.kc), (.slice m.va m.val.length m.vc), .int .i64 m.ver] 31))
  clear hm
  unfold pv
  cases q with
  | none =>
    go_enter Try.func20, Try.ntmps20
    go_wp2_with fail
    go_ret
    exact ⟨rfl, HB.out⟩
  | some a =>
    rw [if_neg (by simp)]
    replace hno : mayE m ≠ 0 := by simpa using hno
    unfold mayE at hno ⊢
    by_cases h0 : m.key.length = 0
    · have h0' : ((m.key.length : Int) == 0) = true := by simp [h0]
      rw [if_pos (.inl h0)]
      go_enter Try.func20, Try.ntmps20
      go_wp2_with fail
      go_ret
      have h9 := HB.out
      rw [h0] at h9
      exact ⟨rfl, h9⟩
    · have h0' : ((m.key.length : Int) == 0) = false := beq_eq_false_iff_ne.2 (by omega)
      by_cases h6 : 600 < m.key.length
      · have h6' : (600 : Int) < (m.key.length : Int) := by omega
        rw [if_pos (.inr h6)]
        go_enter Try.func20, Try.ntmps20
        go_wp2_with fail
        go_ret
        exact ⟨rfl, HB.out⟩
      · have h6' : ¬ (600 : Int) < (m.key.length : Int) := by omega
        have h6d : decide ((600 : Int) < (m.key.length : Int)) = false := decide_eq_false h6'
        rw [if_neg (by omega)] at hno ⊢
        by_cases h1 : 1000 < m.val.length
        · have h1' : (1000 : Int) < (m.val.length : Int) := by omega
          rw [if_pos h1]
          go_enter Try.func20, Try.ntmps20
          go_wp2_with fail
          go_ret
          exact ⟨rfl, HB.out⟩
        · rw [if_neg h1] at hno
          exact (hno rfl).elim

theorem put_fin {base mb : Nat} {v v' : Value} {G G' : List Pg} {m m' : Lp} {p i i2 : Nat} {w W wz : World} (HM : Mp base w mb v G) (HF : Fit G) (hlen : (mls G).flatten.length < 100000) (HSP : SpotOk (mls G) m.key p i) (hal : Alike m' m) (hi2 : i2 = if isAt (mls G) m.key p i = true then i + 1 else i)
    (hW : Below w.heap.size w W) (hnew : NewP w.heap.size m') (z1 : Mp base wz mb v' G') (z2 : mls G' = changeL (mls G) p i p i2 [m']) (z3 : Keep (MX mb v) W wz) (z4 : ∀ k, v'.ownBlock = some k → v.ownBlock = some k ∨ W.heap.size ≤ k) (z5 : ∀ g ∈ G', g ∈ G ∨ ∀ a, g.a = some a → W.heap.size ≤ a.block) :
    Turned base mb v G (putM (mls G).flatten m') w wz v' G' := by
  have hfl : (mls G').flatten = putM (mls G).flatten m' := by rw [z2, hi2]; exact put_flat hal.1 HSP
  have hb := HSP.bound
  have hpg := HF.page p
  have hhl : (headL (mls G) p i p i2 [m']).length ≤ 9 := by
    unfold headL
    simp only [List.length_append, List.length_take, List.length_drop, List.length_cons, List.length_nil]
    rw [hi2]; split <;> omega
  refine ⟨z1, ⟨?_, ?_, ?_⟩, hfl, (Keep.of_below hW).trans z3, fun k hk => (z4 k hk).imp id (fun h => Nat.le_trans hW.size h), fun g hg => (z5 g hg).imp id (fun h a ha => Nat.le_trans hW.size (h a ha)), fun x hx => ?_⟩
  · rw [z2]
    refine change_ok (mls G) p i p i2 [m'] HF.ok (Nat.le_refl _) HSP.le (by omega) (fun e => ?_)
    have e1 : pgAt (mls G) p = [] := pgAt_ge (by omega)
    unfold headL
    rw [e1]
    simp
  · rw [hfl]; exact putM_srt m' _ HF.srt
  · rw [hfl]; have := putM_len m' (mls G).flatten; omega
  · rw [hfl] at hx
    exact (putM_mem m' _ x hx).imp id (fun e => by rw [e]; exact hnew)

theorem isAt_lt {ML : List (List Lp)} {key : List UInt8} {p i : Nat} (h : isAt ML key p i = true) : i + 1 ≤ (pgAt ML p).length := by
  unfold isAt at h
  cases hq : (pgAt ML p)[i]? with
  | none => rw [hq] at h; cases h
  | some q => exact (List.getElem?_eq_some_iff.1 hq).1

set_option maxHeartbeats 8000000 in
set_option maxRecDepth 100000 in
theorem put_any (base mb : Nat) (v : Value) (G : List Pg) (m : Lp) (w : World) (hM : Mp base w mb v G) (hF : Fit G) (hm : RdP w m) (hyes : mayE m = 0) (hlen : (mls G).flatten.length < 100000) :
    Calls Try.prog 20 #[.pointer (some ⟨mb, 0, none⟩), pv m] w (fun e w' => e = .returned (.int .i64 0) ∧ ∃ m' v' G', Alike m' m ∧ Turned base mb v G (putM (mls G).flatten m') w w' v' G') := by
  have o1 := one_rd hm.1
  have o2 := one_rd hm.2
  have hk : m.key.length ≠ 0 ∧ ¬ 600 < m.key.length ∧ ¬ 1000 < m.val.length := by
    unfold mayE at hyes
    split at hyes
    · omega
    · split at hyes
      · omega
      · omega
  obtain ⟨hk0, hk6, hv1⟩ := hk
  have h0' : ((m.key.length : Int) == 0) = false := beq_eq_false_iff_ne.2 (by omega)
  have h6' : ¬ (600 : Int) < (m.key.length : Int) := by omega
  have h6d : decide ((600 : Int) < (m.key.length : Int)) = false := decide_eq_false h6'
  have h1' : ¬ (1000 : Int) < (m.val.length : Int) := by omega
  obtain ⟨vo, vc, rfl, -⟩ := hM.pgs.form
  have HM := hid hM
  have HF := hid hF
  have HMM := hid hm
  have hmlt := lt_of_block hM.hd
  have HB1 := hid ((Below.refl w.heap.size w).alloc (Nat.le_refl _) (.cells #[(.slice m.ka m.key.length m.kc), (.slice m.va m.val.length m.vc), .int .i64 m.ver] 31))
  have H0 : Hid ((w.alloc (.cells #[(.slice m.ka m.key.length m.kc), (.slice m.va m.val.length m.vc), .int .i64 m.ver] 31)).heap[w.heap.size]? = some (.cells #[(.slice m.ka m.key.length m.kc), (.slice m.va m.val.length m.vc), .int .i64 m.ver] 31 (0, 0))) := heap_alloc_new _ _
  clear hM hF hm
  unfold pv
  go_enter Try.func20, Try.ntmps20
  go_upto_region 7 with fail
  generalize w.alloc (.cells #[(.slice m.ka m.key.length m.kc), (.slice m.va m.val.length m.vc), .int .i64 m.ver] 31) = w1 at *
  have HS : Hid (∀ W, Below w1.heap.size w1 W → (Hid (Below w1.heap.size w1 W) ∧ W.cell? ⟨mb, 0, none⟩ = some (.slice vo G.length vc) ∧ W.cell? ⟨w.heap.size, 0, none⟩ = some (.slice m.ka m.key.length m.kc) ∧ W.cell? ⟨w.heap.size, 1, none⟩ = some (.slice m.va m.val.length m.vc) ∧ W.cell? ⟨w.heap.size, 2, none⟩ = some (.int .i64 m.ver))) := fun W h => by
    obtain ⟨a1, a2, a3, -, -, -⟩ := three_cells ((h.block _ (lt_of_block H0.out)).trans H0.out)
    have hm : W.heap[mb]? = some (.cells #[.slice vo G.length vc] 65 (0, 0)) := (h.block _ (Nat.lt_of_lt_of_le hmlt HB1.out.size)).trans ((HB1.out.block mb hmlt).trans HM.out.hd)
    exact ⟨h, by simp [World.cell?, hm], a1, a2, a3⟩
  have CF : Hid (∀ W, Below w1.heap.size w1 W → Calls Try.prog 30 #[.slice vo G.length vc, .slice m.ka m.key.length m.kc] W (FindA G m.key W)) := fun W h => by
    have hb : Below w.heap.size w W := HB1.out.trans (h.mono HB1.out.size)
    exact find_anyG _ _ G m.key _ (HM.out.pgs.old hb) (HMM.out.1.old hb) HF.out.ord
  go_cut [5, 6] from 27 to 36 (fun t s wx => ∃ p i tb, t = .pointer (some ⟨tb, 0, none⟩) ∧ s = .bool (isAt (mls G) m.key p i) ∧ SpotOk (mls G) m.key p i ∧ wx.heap[tb]? = some (.cells #[.int .i64 (p : Int), .int .i64 (i : Int)] 67 (0, 0)) ∧ w1.heap.size ≤ tb ∧ Below w1.heap.size w1 wx)
  case first =>
    have hb0 : Below w1.heap.size w1 w1 := Below.refl _ _
    obtain ⟨-, c0, c1, c2, c3⟩ := HS.out _ hb0
    clear hb0
    go_region_held3 (fun W => Hid (Below w1.heap.size w1 W) ∧ W.cell? ⟨mb, 0, none⟩ = some (.slice vo G.length vc) ∧ W.cell? ⟨w.heap.size, 0, none⟩ = some (.slice m.ka m.key.length m.kc) ∧ W.cell? ⟨w.heap.size, 1, none⟩ = some (.slice m.va m.val.length m.vc) ∧ W.cell? ⟨w.heap.size, 2, none⟩ = some (.int .i64 m.ver))
      (first | (go_split_ands; first | exact HS.out _ (Hid.out (by assumption)) | exact HS.out _ (Below.drew (Below.refl _ _)) | exact HS.out _ (Below.drew ((Below.refl _ _).alloc (Nat.le_refl _) _)) | exact HS.out _ (chain (by assumption : Hid (Below _ w1 _)).out (by assumption)) | exact HS.out _ ((by assumption : Hid (Below _ w1 _)).out.alloc (by assumption : Hid (Below _ w1 _)).out.size _) | exact HS.out _ (((HBF.out.alloc HBF.out.size _).setCell (p := ⟨wf.heap.size, 0, none⟩) HBF.out.size _).setCell (p := ⟨wf.heap.size, 1, none⟩) HBF.out.size _) | exact HS.out _ (((by assumption : Hid (Below _ w1 _)).out.setCell (p := ⟨w1.heap.size, 0, none⟩) (Nat.le_refl _) _).setCell (p := ⟨w1.heap.size, 1, none⟩) (Nat.le_refl _) _)) | go_keep)
      (first
        | (go_at_call 30; go_split_ands; have HPRE := (by assumption : Hid (Below _ w1 _)); refine (CF.out _ HPRE.out).mono ?_; rintro e wf ⟨p, i, hs, rfl, hbf⟩; have HBF := hid (chain HPRE.out hbf); clear HPRE; unfold spotV; have HSP := hid hs; clear hs; try (have hq9 : wf.heap[w1.heap.size]? = some (.cells #[.int .i64 0, .int .i64 0] 67 (0, 0)) := (hbf.block w1.heap.size (show w1.heap.size < (w1.alloc _).heap.size by simp)).trans (heap_alloc_new w1 _); have HQ9 := hid hq9; obtain ⟨z0, z1, z2, z3⟩ := two_cells hq9; clear hq9)))
    all_goals (go_wp2_with fail)
    all_goals go_meet
    · exact ⟨p, i, wf.heap.size, rfl, rfl, HSP.out, heap_alloc_new _ _, HBF.out.size, HBF.out.alloc HBF.out.size _⟩
    · exact ⟨p, i, w1.heap.size, rfl, rfl, HSP.out, two_set1 (two_set0 HQ9.out), Nat.le_refl _, (HBF.out.setCell (p := ⟨w1.heap.size, 0, none⟩) (Nat.le_refl _) _).setCell (p := ⟨w1.heap.size, 1, none⟩) (Nat.le_refl _) _⟩
  case rest =>
    obtain ⟨p, i, tb, rfl, rfl, hsp, htb, hlt, hbx⟩ := hcut
    have HSP := hid hsp
    have HTB := hid htb
    have HBX := hid hbx
    have HLT := hid hlt
    obtain ⟨t0, t1, -, -⟩ := two_cells htb
    clear hsp htb hbx hlt
    have hple := HSP.out.le
    rw [mls_len] at hple
    cases hat : isAt (mls G) m.key p i with
    | true =>
      have hw : IntKind.i64.wrap ((i : Int) + 1) = ((i + 1 : Nat) : Int) := by
        have := HF.out.page p
        have := HSP.out.bound
        rw [IntKind.wrap_i64]; omega
      go_upto_region 11 with fail
      have h6m : Hid ((wc.alloc (.cells #[.int .i64 (p : Int), .int .i64 ((i : Int) + 1)] 67)).heap[w.heap.size]? = some (.cells #[.slice m.ka m.key.length m.kc, .slice m.va m.val.length m.vc, .int .i64 m.ver] 31 (0, 0))) := (Below.heap_alloc _ _ _ (Nat.lt_of_lt_of_le (lt_of_block H0.out) HBX.out.size)).trans ((HBX.out.block _ (lt_of_block H0.out)).trans H0.out)
      have h6b : Hid ((wc.alloc (.cells #[.int .i64 (p : Int), .int .i64 ((i : Int) + 1)] 67)).heap[tb]? = some (.cells #[.int .i64 (p : Int), .int .i64 (i : Int)] 67 (0, 0))) := (Below.heap_alloc _ _ _ (lt_of_block HTB.out)).trans HTB.out
      have h6c : Hid ((wc.alloc (.cells #[.int .i64 (p : Int), .int .i64 ((i : Int) + 1)] 67)).heap[wc.heap.size]? = some (.cells #[.int .i64 (p : Int), .int .i64 ((i : Int) + 1)] 67 (0, 0))) := heap_alloc_new _ _
      have HB6 : Hid (Below w.heap.size w (wc.alloc (.cells #[.int .i64 (p : Int), .int .i64 ((i : Int) + 1)] 67))) := (HB1.out.trans (HBX.out.mono HB1.out.size)).alloc (Nat.le_trans HB1.out.size HBX.out.size) _
      have hcs : w.heap.size ≤ wc.heap.size := Nat.le_trans HB1.out.size HBX.out.size
      have htbs : w.heap.size ≤ tb := Nat.le_trans HB1.out.size HLT.out
      have HCS := hid (And.intro hcs htbs)
      clear hcs htbs t0 t1
      generalize wc.alloc (.cells #[.int .i64 (p : Int), .int .i64 ((i : Int) + 1)] 67) = w6 at *
      have HS2 : Hid (∀ W W', Below w6.heap.size w6 W → Keep (MX mb (.slice vo G.length vc)) W W' → (W'.cell? ⟨tb, 0, none⟩ = some (.int .i64 (p : Int)) ∧ W'.cell? ⟨tb, 1, none⟩ = some (.int .i64 (i : Int)) ∧ W'.cell? ⟨wc.heap.size, 0, none⟩ = some (.int .i64 (p : Int)) ∧ W'.cell? ⟨wc.heap.size, 1, none⟩ = some (.int .i64 ((i : Int) + 1)) ∧ W'.cell? ⟨w.heap.size, 0, none⟩ = some (.slice m.ka m.key.length m.kc) ∧ W'.cell? ⟨w.heap.size, 1, none⟩ = some (.slice m.va m.val.length m.vc) ∧ W'.cell? ⟨w.heap.size, 2, none⟩ = some (.int .i64 m.ver))) := fun W W' h k => by
        have nx : ∀ b, w.heap.size ≤ b → ¬ MX mb (.slice vo G.length vc) b := fun b hb hx => by
          rcases hx with e | e
          · omega
          · have := (HM.out.own.lt b e).2; omega
        have q := fun (b : Nat) (ob : Obj) (hb : w.heap.size ≤ b) (h9 : w6.heap[b]? = some ob) => (k.block b (Nat.lt_of_lt_of_le (lt_of_block h9) h.size) (nx b hb)).trans ((h.block b (lt_of_block h9)).trans h9)
        obtain ⟨a1, a2, a3, -, -, -⟩ := three_cells (q _ _ (Nat.le_refl _) h6m.out)
        obtain ⟨b1, b2, -, -⟩ := two_cells (q _ _ HCS.out.2 h6b.out)
        obtain ⟨c1, c2, -, -⟩ := two_cells (q _ _ HCS.out.1 h6c.out)
        exact ⟨b1, b2, c1, c2, a1, a2, a3⟩
      have CP : Hid (∀ W, Below w6.heap.size w6 W → Calls Try.prog 37 #[.agg #[.slice m.ka m.key.length m.kc, .slice m.va m.val.length m.vc, .int .i64 m.ver]] W (CopyA m W)) := fun W h => copied_any m W (HMM.out.old (HB6.out.trans (h.mono HB6.out.size))) (by omega) (by omega)
      have CC : Hid (∀ (W : World) (m' : Lp), Below w6.heap.size w6 W → RdP W m' → Mine w6.heap.size W m' → Calls Try.prog 32 #[.pointer (some ⟨mb, 0, none⟩), .agg #[.int .i64 (p : Int), .int .i64 (i : Int)], .agg #[.int .i64 (p : Int), .int .i64 ((i : Int) + 1)], .slice (some ⟨W.heap.size, 0, none⟩) 1 1] (W.alloc (.cells #[.slice m'.ka m'.key.length m'.kc, .slice m'.va m'.val.length m'.vc, .int .i64 m'.ver] 31))
          (ChgA base mb (.slice vo G.length vc) G (changeL (mls G) p i p (i + 1) [m']) (W.alloc (.cells (rowP m').toArray 31)))) := fun W m' h hr hmine => by
        have hbw : Below w.heap.size w (W.alloc (.cells (rowP m').toArray 31)) := (HB6.out.trans (h.mono HB6.out.size)).alloc (Nat.le_trans HB6.out.size h.size) _
        have e2 : ((i : Int) + 1 : Int) = (((i + 1 : Nat)) : Int) := by omega
        rw [e2]
        have hbd := HSP.out.bound
        refine change_any base mb (.slice vo G.length vc) G p i p (i + 1) (some ⟨W.heap.size, 0, none⟩) 1 [m'] _ (HM.out.old hbw) HF.out ⟨Rws.one rfl hr.wide, fun x hx => by simp at hx; subst hx; exact hr.old ((Below.refl _ _).alloc (Nat.le_refl _) _)⟩ ?_ (Nat.le_refl _) hple hbd (isAt_lt hat) (by simp) (fun e9 => ⟨HSP.out.none (by rw [mls_len]; exact e9), rfl⟩) (fun _ => by simp)
        intro x hx
        simp at hx
        subst hx
        have hs6 := HB6.out.size
        have nx : ∀ b, w6.heap.size ≤ b → ¬ MX mb (.slice vo G.length vc) b := fun b hb hx => by
          rcases hx with e | e
          · omega
          · have := (HM.out.own.lt b e).2; omega
        exact ⟨fun _ a ha => nx _ (hmine.k.lt a.block (by rw [ha]; rfl)).1, fun _ a ha => nx _ (hmine.v.lt a.block (by rw [ha]; rfl)).1⟩
      have hk0 : Keep (MX mb (.slice vo G.length vc)) w6 w6 := Keep.refl _ _
      have hb0 : Below w6.heap.size w6 w6 := Below.refl _ _
      obtain ⟨t0, t1, t2, t3, c1, c2, c3⟩ := HS2.out _ _ hb0 hk0
      clear hk0 hb0
      go_region_held3 (fun W' => W'.cell? ⟨tb, 0, none⟩ = some (.int .i64 (p : Int)) ∧ W'.cell? ⟨tb, 1, none⟩ = some (.int .i64 (i : Int)) ∧ W'.cell? ⟨wc.heap.size, 0, none⟩ = some (.int .i64 (p : Int)) ∧ W'.cell? ⟨wc.heap.size, 1, none⟩ = some (.int .i64 ((i : Int) + 1)) ∧ W'.cell? ⟨w.heap.size, 0, none⟩ = some (.slice m.ka m.key.length m.kc) ∧ W'.cell? ⟨w.heap.size, 1, none⟩ = some (.slice m.va m.val.length m.vc) ∧ W'.cell? ⟨w.heap.size, 2, none⟩ = some (.int .i64 m.ver))
        (first | (go_split_ands; first | exact HS2.out _ _ (Below.drew (Below.refl _ _)) (Keep.refl _ _) | exact HS2.out _ _ HBK.out (Keep.refl _ _) | exact HS2.out _ _ (HBK.out.alloc HBK.out.size _) (Keep.refl _ _) | exact HS2.out _ _ (HBK.out.alloc HBK.out.size _) HKC.out) | go_keep)
        (first
          | (go_at_call 37; go_split_ands; refine (CP.out _ (Below.drew (Below.refl _ _))).mono ?_; rintro e wk ⟨m', hal, rfl, hmi, hbk⟩; have HAL := hid hal; have HBK := hid (below_of_drew hbk); have HMI := hid (show Mine w6.heap.size wk m' from hmi); clear hal hmi hbk; unfold pv)
          | (go_at_call 32; go_split_ands; refine (CC.out _ _ HBK.out HMI.out.rd HMI.out).mono ?_; rintro e wz ⟨v', G', r, rfl, z1, z2, z3, z4, z5⟩; have Z1 := hid z1; have Z2 := hid z2; have HKC := hid z3; have Z4 := hid z4; have Z5 := hid z5; clear z1 z2 z3 z4 z5))
      all_goals (go_wp2_with fail)
      go_ret
      refine ⟨rfl, m', v', G', HAL.out, put_fin (i2 := i + 1) HM.out HF.out hlen HSP.out HAL.out (by rw [hat]; rfl) ((HB6.out.trans (HBK.out.mono HB6.out.size)).alloc (Nat.le_trans HB6.out.size HBK.out.size) _) ⟨fun a ha => Nat.le_trans HB6.out.size (HMI.out.k.lt a.block (by rw [ha]; rfl)).1, fun a ha => Nat.le_trans HB6.out.size (HMI.out.v.lt a.block (by rw [ha]; rfl)).1⟩ Z1.out Z2.out HKC.out Z4.out Z5.out⟩
    | false =>
      go_upto_region 11 with fail
      have h6m : Hid ((wc.alloc (.cells #[.int .i64 (p : Int), .int .i64 ((i : Int))] 67)).heap[w.heap.size]? = some (.cells #[.slice m.ka m.key.length m.kc, .slice m.va m.val.length m.vc, .int .i64 m.ver] 31 (0, 0))) := (Below.heap_alloc _ _ _ (Nat.lt_of_lt_of_le (lt_of_block H0.out) HBX.out.size)).trans ((HBX.out.block _ (lt_of_block H0.out)).trans H0.out)
      have h6b : Hid ((wc.alloc (.cells #[.int .i64 (p : Int), .int .i64 ((i : Int))] 67)).heap[tb]? = some (.cells #[.int .i64 (p : Int), .int .i64 (i : Int)] 67 (0, 0))) := (Below.heap_alloc _ _ _ (lt_of_block HTB.out)).trans HTB.out
      have h6c : Hid ((wc.alloc (.cells #[.int .i64 (p : Int), .int .i64 ((i : Int))] 67)).heap[wc.heap.size]? = some (.cells #[.int .i64 (p : Int), .int .i64 ((i : Int))] 67 (0, 0))) := heap_alloc_new _ _
      have HB6 : Hid (Below w.heap.size w (wc.alloc (.cells #[.int .i64 (p : Int), .int .i64 ((i : Int))] 67))) := (HB1.out.trans (HBX.out.mono HB1.out.size)).alloc (Nat.le_trans HB1.out.size HBX.out.size) _
      have hcs : w.heap.size ≤ wc.heap.size := Nat.le_trans HB1.out.size HBX.out.size
      have htbs : w.heap.size ≤ tb := Nat.le_trans HB1.out.size HLT.out
      have HCS := hid (And.intro hcs htbs)
      clear hcs htbs t0 t1
      generalize wc.alloc (.cells #[.int .i64 (p : Int), .int .i64 ((i : Int))] 67) = w6 at *
      have HS2 : Hid (∀ W W', Below w6.heap.size w6 W → Keep (MX mb (.slice vo G.length vc)) W W' → (W'.cell? ⟨tb, 0, none⟩ = some (.int .i64 (p : Int)) ∧ W'.cell? ⟨tb, 1, none⟩ = some (.int .i64 (i : Int)) ∧ W'.cell? ⟨wc.heap.size, 0, none⟩ = some (.int .i64 (p : Int)) ∧ W'.cell? ⟨wc.heap.size, 1, none⟩ = some (.int .i64 ((i : Int))) ∧ W'.cell? ⟨w.heap.size, 0, none⟩ = some (.slice m.ka m.key.length m.kc) ∧ W'.cell? ⟨w.heap.size, 1, none⟩ = some (.slice m.va m.val.length m.vc) ∧ W'.cell? ⟨w.heap.size, 2, none⟩ = some (.int .i64 m.ver))) := fun W W' h k => by
        have nx : ∀ b, w.heap.size ≤ b → ¬ MX mb (.slice vo G.length vc) b := fun b hb hx => by
          rcases hx with e | e
          · omega
          · have := (HM.out.own.lt b e).2; omega
        have q := fun (b : Nat) (ob : Obj) (hb : w.heap.size ≤ b) (h9 : w6.heap[b]? = some ob) => (k.block b (Nat.lt_of_lt_of_le (lt_of_block h9) h.size) (nx b hb)).trans ((h.block b (lt_of_block h9)).trans h9)
        obtain ⟨a1, a2, a3, -, -, -⟩ := three_cells (q _ _ (Nat.le_refl _) h6m.out)
        obtain ⟨b1, b2, -, -⟩ := two_cells (q _ _ HCS.out.2 h6b.out)
        obtain ⟨c1, c2, -, -⟩ := two_cells (q _ _ HCS.out.1 h6c.out)
        exact ⟨b1, b2, c1, c2, a1, a2, a3⟩
      have CP : Hid (∀ W, Below w6.heap.size w6 W → Calls Try.prog 37 #[.agg #[.slice m.ka m.key.length m.kc, .slice m.va m.val.length m.vc, .int .i64 m.ver]] W (CopyA m W)) := fun W h => copied_any m W (HMM.out.old (HB6.out.trans (h.mono HB6.out.size))) (by omega) (by omega)
      have CC : Hid (∀ (W : World) (m' : Lp), Below w6.heap.size w6 W → RdP W m' → Mine w6.heap.size W m' → Calls Try.prog 32 #[.pointer (some ⟨mb, 0, none⟩), .agg #[.int .i64 (p : Int), .int .i64 (i : Int)], .agg #[.int .i64 (p : Int), .int .i64 ((i : Int))], .slice (some ⟨W.heap.size, 0, none⟩) 1 1] (W.alloc (.cells #[.slice m'.ka m'.key.length m'.kc, .slice m'.va m'.val.length m'.vc, .int .i64 m'.ver] 31))
          (ChgA base mb (.slice vo G.length vc) G (changeL (mls G) p i p (i) [m']) (W.alloc (.cells (rowP m').toArray 31)))) := fun W m' h hr hmine => by
        have hbw : Below w.heap.size w (W.alloc (.cells (rowP m').toArray 31)) := (HB6.out.trans (h.mono HB6.out.size)).alloc (Nat.le_trans HB6.out.size h.size) _
        have e2 : ((i : Int) : Int) = (((i : Nat)) : Int) := by omega
        rw [e2]
        have hbd := HSP.out.bound
        refine change_any base mb (.slice vo G.length vc) G p i p (i) (some ⟨W.heap.size, 0, none⟩) 1 [m'] _ (HM.out.old hbw) HF.out ⟨Rws.one rfl hr.wide, fun x hx => by simp at hx; subst hx; exact hr.old ((Below.refl _ _).alloc (Nat.le_refl _) _)⟩ ?_ (Nat.le_refl _) hple hbd hbd (by simp) (fun e9 => ⟨HSP.out.none (by rw [mls_len]; exact e9), rfl⟩) (fun _ => by simp)
        intro x hx
        simp at hx
        subst hx
        have hs6 := HB6.out.size
        have nx : ∀ b, w6.heap.size ≤ b → ¬ MX mb (.slice vo G.length vc) b := fun b hb hx => by
          rcases hx with e | e
          · omega
          · have := (HM.out.own.lt b e).2; omega
        exact ⟨fun _ a ha => nx _ (hmine.k.lt a.block (by rw [ha]; rfl)).1, fun _ a ha => nx _ (hmine.v.lt a.block (by rw [ha]; rfl)).1⟩
      have hk0 : Keep (MX mb (.slice vo G.length vc)) w6 w6 := Keep.refl _ _
      have hb0 : Below w6.heap.size w6 w6 := Below.refl _ _
      obtain ⟨t0, t1, t2, t3, c1, c2, c3⟩ := HS2.out _ _ hb0 hk0
      clear hk0 hb0
      go_region_held3 (fun W' => W'.cell? ⟨tb, 0, none⟩ = some (.int .i64 (p : Int)) ∧ W'.cell? ⟨tb, 1, none⟩ = some (.int .i64 (i : Int)) ∧ W'.cell? ⟨wc.heap.size, 0, none⟩ = some (.int .i64 (p : Int)) ∧ W'.cell? ⟨wc.heap.size, 1, none⟩ = some (.int .i64 ((i : Int))) ∧ W'.cell? ⟨w.heap.size, 0, none⟩ = some (.slice m.ka m.key.length m.kc) ∧ W'.cell? ⟨w.heap.size, 1, none⟩ = some (.slice m.va m.val.length m.vc) ∧ W'.cell? ⟨w.heap.size, 2, none⟩ = some (.int .i64 m.ver))
        (first | (go_split_ands; first | exact HS2.out _ _ (Below.drew (Below.refl _ _)) (Keep.refl _ _) | exact HS2.out _ _ HBK.out (Keep.refl _ _) | exact HS2.out _ _ (HBK.out.alloc HBK.out.size _) (Keep.refl _ _) | exact HS2.out _ _ (HBK.out.alloc HBK.out.size _) HKC.out) | go_keep)
        (first
          | (go_at_call 37; go_split_ands; refine (CP.out _ (Below.drew (Below.refl _ _))).mono ?_; rintro e wk ⟨m', hal, rfl, hmi, hbk⟩; have HAL := hid hal; have HBK := hid (below_of_drew hbk); have HMI := hid (show Mine w6.heap.size wk m' from hmi); clear hal hmi hbk; unfold pv)
          | (go_at_call 32; go_split_ands; refine (CC.out _ _ HBK.out HMI.out.rd HMI.out).mono ?_; rintro e wz ⟨v', G', r, rfl, z1, z2, z3, z4, z5⟩; have Z1 := hid z1; have Z2 := hid z2; have HKC := hid z3; have Z4 := hid z4; have Z5 := hid z5; clear z1 z2 z3 z4 z5))
      all_goals (go_wp2_with fail)
      go_ret
      refine ⟨rfl, m', v', G', HAL.out, put_fin (i2 := i) HM.out HF.out hlen HSP.out HAL.out (by rw [hat]; rfl) ((HB6.out.trans (HBK.out.mono HB6.out.size)).alloc (Nat.le_trans HB6.out.size HBK.out.size) _) ⟨fun a ha => Nat.le_trans HB6.out.size (HMI.out.k.lt a.block (by rw [ha]; rfl)).1, fun a ha => Nat.le_trans HB6.out.size (HMI.out.v.lt a.block (by rw [ha]; rfl)).1⟩ Z1.out Z2.out HKC.out Z4.out Z5.out⟩
end Go.Proofs.Ytcgnghkjkdkmmaa
