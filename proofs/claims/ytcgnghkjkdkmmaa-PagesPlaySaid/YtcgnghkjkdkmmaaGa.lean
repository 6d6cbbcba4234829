/-
  PAGES: bytes.Compare, against, the two binary searches, over pages in memory.
-/
import Derived.Test.YtcgnghkjkdkmmaaPr3
import Derived.Lib.Bytealg
import Derived.Shelf.Abstract
set_option linter.unusedVariables false
namespace Go.Proofs.Ytcgnghkjkdkmmaa
open Go.RowKit Go.Shelf

/-- A page, with the slice that holds it. -/
structure Pg where
  a : Option Addr
  c : Nat
  M : List Lp

def rowG (g : Pg) : List Value := [.slice g.a g.M.length g.c]
def RdG (w : World) (g : Pg) : Prop := Prs w (.slice g.a g.M.length g.c) g.M
def Pgs (w : World) (x : Value) (G : List Pg) : Prop := Rws 1 w x (G.map rowG) ∧ ∀ g ∈ G, RdG w g

theorem RdG.old {w w' : World} {g : Pg} (h : RdG w g) (hb : Below w.heap.size w w') : RdG w' g := Prs.old h hb
theorem Pgs.old {w w' : World} {x : Value} {G : List Pg} (h : Pgs w x G) (hb : Below w.heap.size w w') : Pgs w' x G := ⟨h.1.old hb, fun g hg => (h.2 g hg).old hb⟩
theorem wideG (G : List Pg) : Wide 1 (G.map rowG) := fun r hr => by
  obtain ⟨g, _, rfl⟩ := List.mem_map.1 hr
  exact ⟨rfl, fun u hu => by simp [rowG] at hu; subst hu; rfl⟩
theorem Pgs.nil (w : World) : Pgs w (.slice none 0 0) [] := ⟨Rws.nil 1 w, fun g hg => by cases hg⟩
theorem Pgs.form {w : World} {x : Value} {G : List Pg} (h : Pgs w x G) : ∃ ao c, x = .slice ao G.length c ∧ G.length ≤ maxLen := by
  obtain ⟨ao, c, h1, h2, h3⟩ := h.1.form
  rw [List.length_map] at h1 h2
  exact ⟨ao, c, h1, Nat.le_trans h2 h3⟩
theorem Pgs.len {P : Program} {w : World} {x : Value} {G : List Pg} (h : Pgs w x G) (t e ty : TypeId) (ht : P.underlying t = some (.slice e)) :
    ∀ W, (Builtin.len_ #[t] ty #[x]).run P W = .ok (goInt G.length) W := by
  have := h.1.len (P := P) t e ty ht
  rw [List.length_map] at this
  exact this
theorem Pgs.get {w : World} {ao : Option Addr} {n c : Nat} {G : List Pg} (h : Pgs w (.slice ao n c) G) {k : Nat} {g : Pg} (hk : G[k]? = some g) :
    ∃ b off, ao = some ⟨b, off, none⟩ ∧ w.cell? ⟨b, off + k * 1, none⟩ = some (.slice g.a g.M.length g.c) := by
  obtain ⟨b, off, ha, hc⟩ := h.1.get (by decide) (k := k) (r := rowG g) (by rw [List.getElem?_map, hk]; rfl)
  exact ⟨b, off, ha, hc 0 _ rfl⟩
theorem Pgs.at {w : World} {x : Value} {G : List Pg} (h : Pgs w x G) {k : Nat} {g : Pg} (hk : G[k]? = some g) : RdG w g := h.2 g (List.mem_of_getElem? hk)

/-- Bytes, one against the other. -/
def cmpB (l m : List UInt8) : Int := Lib.compareBytes l m

theorem add_add1 (a : Addr) (j : Nat) : (a.add 1).add j = a.add (j + 1) := by
  unfold Addr.add
  by_cases hj : j = 0
  · subst hj; simp
  · simp [hj]; omega

theorem run_loadB {P : Program} {w : World} : ∀ (l : List UInt8) (a : Addr) (acc : ByteArray), (∀ (j : Nat) u, (l.map bv)[j]? = some u → w.cell? (a.add j) = some u) →
    (Extern.Bytes.loadBytes a l.length acc).run P w = .ok ⟨acc.data ++ l.toArray⟩ w
  | [], a, acc, _ => by simp [Extern.Bytes.loadBytes]
  | c :: l, a, acc, h => by
    have h0 : w.cell? a = some (bv c) := by
      have := h 0 _ rfl
      simpa [Addr.add] using this
    have ih := run_loadB (P := P) l (a.add 1) (acc.push c) (fun j u hu => by
      have := h (j + 1) u (by simpa using hu)
      rw [add_add1]; exact this)
    simp only [List.length_cons, Extern.Bytes.loadBytes, Sem.run_bind, run_load, h0, Result.andThen, bv]
    have e : ((c.toNat : Int)).toNat.toUInt8 = c := by simp
    rw [e, ih]
    congr 1
    apply ByteArray.ext
    simp [ByteArray.push]

theorem Rd.bytesOf {P : Program} {w : World} {x : Value} {l : List UInt8} (h : Rd w x l) : (Extern.Bytes.bytesOf x).run P w = .ok ⟨l.toArray⟩ w := by
  obtain ⟨ao, c, rfl, h1, h2, h3, h4⟩ := h
  cases ao with
  | none =>
    obtain rfl : l = [] := List.eq_nil_of_length_eq_zero (by have := h3 rfl; omega)
    rfl
  | some a =>
    have hl := run_loadB (P := P) (w := w) l a .empty (h4 a rfl)
    show (Extern.Bytes.loadBytes a l.length .empty).run P w = _
    rw [hl]
    congr 1
    show (⟨#[] ++ l.toArray⟩ : ByteArray) = _
    simp

theorem run_compareSlices {P : Program} {w : World} {x y : Value} {l m : List UInt8} (hx : Rd w x l) (hy : Rd w y m) :
    (Extern.BytealgCompare.compare #[x, y]).run P w = .ok (.int .i64 (cmpB l m)) w := by
  change Sem.run P (do pure (goInt (Extern.BytealgCompare.cmp (← Extern.Bytes.bytesOf x) (← Extern.Bytes.bytesOf y)))) w = _
  simp only [Sem.run_bind, hx.bytesOf, hy.bytesOf, Sem.run_pure, Result.andThen]
  rw [Lib.cmp_eq]
  rfl

set_option maxHeartbeats 1000000 in
set_option maxRecDepth 100000 in
theorem cmp_any (x y : Value) (l m : List UInt8) (w : World) (hx : Rd w x l) (hy : Rd w y m) :
    Calls Try.prog 48 #[x, y] w fun e w' => e = .returned (.int .i64 (cmpB l m)) ∧ w' = w := by
  have C := run_compareSlices (P := Try.prog) hx hy
  clear hx hy
  go_enter Try.func48, Try.ntmps48
  go_wp2
  rw [run_callFunc_extern Try.func63 (by kernel_rfl) (by kernel_rfl) (by kernel_rfl) (e := Extern.BytealgCompare.compare) (by kernel_rfl), C]
  simp only [Result.andThen]
  rw [Oper.upon_value]
  go_wp2
  go_ret
  exact ⟨rfl, rfl⟩

set_option maxHeartbeats 1000000 in
set_option maxRecDepth 100000 in
theorem against_any (m : Lp) (y : Value) (key : List UInt8) (w : World) (hm : RdP w m) (hy : Rd w y key) :
    Calls Try.prog 42 #[pv m, y] w (AnsP w (.int .i64 (cmpB m.key key))) := by
  have B1 := (Below.refl w.heap.size w).alloc (Nat.le_refl _) (.cells #[(.slice m.ka m.key.length m.kc), (.slice m.va m.val.length m.vc), .int .i64 m.ver] 31)
  have C := cmp_any _ _ _ _ _ (hm.old B1).1 (hy.old B1)
  have o1 := one_rd hm.1
  have o2 := one_rd hm.2
  have HB := hid B1
  clear hm hy B1
  unfold pv
  go_enter Try.func42, Try.ntmps42
  go_wp2_with (first | (go_at_call 48; refine C.mono ?_; rintro e w' ⟨rfl, rfl⟩))
  go_ret
  exact ⟨rfl, HB.out⟩

set_option maxHeartbeats 1000000 in
set_option maxRecDepth 100000 in
/-- Of a page, its last pair against a key. -/
theorem last_any (g : Pg) (y : Value) (key : List UInt8) (m : Lp) (w : World) (hg : RdG w g) (hy : Rd w y key) (hm : g.M[g.M.length - 1]? = some m) :
    Calls Try.prog 56 #[.slice g.a g.M.length g.c, y] w (AnsP w (.int .i64 (cmpB m.key key))) := by
  have hl : 0 < g.M.length := by
    rcases Nat.eq_zero_or_pos g.M.length with h | h
    · rw [List.eq_nil_of_length_eq_zero h] at hm; simp at hm
    · exact h
  obtain ⟨ao, c, he, hmax⟩ := Prs.form hg
  unfold maxLen at hmax
  unfold RdG at hg
  obtain ⟨b, off, ha, d1, d2, d3⟩ := hg.get hm
  have hrd := hg.at hm
  have o1 := one_rd hrd.1
  have o2 := one_rd hrd.2
  have C := against_any m y key w hrd hy
  obtain ⟨ga, gc, gM⟩ := g
  simp only at *
  subst ha
  clear he hg hrd hy
  have hw : IntKind.i64.wrap ((gM.length : Int) - 1) = ((gM.length - 1 : Nat) : Int) := by
    rw [IntKind.wrap_i64]
    omega
  unfold pv at C
  go_enter Try.func56, Try.ntmps56
  go_wp2_with (first | (go_at_call 42; refine C.mono ?_; rintro e w' ⟨rfl, hb⟩))
  go_ret
  exact ⟨rfl, hb⟩

/-- What a binary search finds: all ahead of k are below, all from k on are not. -/
def Srch (cs : List Int) (k : Nat) : Prop := k ≤ cs.length ∧ (∀ (j : Nat) c, j < k → cs[j]? = some c → c < 0) ∧ (∀ (j : Nat) c, k ≤ j → cs[j]? = some c → 0 ≤ c)
/-- Signs that turn once at most. -/
def Mono (cs : List Int) : Prop := ∀ (i j : Nat) c d, i ≤ j → cs[i]? = some c → cs[j]? = some d → d < 0 → c < 0

theorem Srch.unique {cs : List Int} {k k' : Nat} (h : Srch cs k) (h' : Srch cs k') : k = k' := by
  obtain ⟨a1, a2, a3⟩ := h
  obtain ⟨b1, b2, b3⟩ := h'
  rcases Nat.lt_trichotomy k k' with hlt | rfl | hlt
  · have hk := List.getElem?_eq_getElem (show k < cs.length by omega)
    have := b2 k _ hlt hk
    have := a3 k _ (Nat.le_refl _) hk
    omega
  · rfl
  · have hk := List.getElem?_eq_getElem (show k' < cs.length by omega)
    have := a2 k' _ hlt hk
    have := b3 k' _ (Nat.le_refl _) hk
    omega

/-- What a call that reads at most tells, whatever it tells. -/
def SeekR (cs : List Int) (w : World) (e : Ending) (w' : World) : Prop :=
  ∃ k : Nat, Srch cs k ∧ e = .returned (.tuple #[.int .i64 (k : Int), .bool (decide (cs[k]? = some 0))]) ∧ Below w.heap.size w w'

theorem srch_low {cs : List Int} {p s : Nat} {c : Int} (hm : Mono cs) (hp : cs[p]? = some c) (hc : c < 0) : ∀ (j : Nat) d, j < p + 1 → cs[j]? = some d → d < 0 := fun j d hj hd => hm j p d c (by omega) hd hp hc
theorem srch_high {cs : List Int} {p : Nat} {c : Int} (hm : Mono cs) (hp : cs[p]? = some c) (hc : ¬ c < 0) : ∀ (j : Nat) d, p ≤ j → cs[j]? = some d → 0 ≤ d := fun j d hj hd => by
  rcases Int.lt_or_le d 0 with h | h
  · exact (hc (hm p j c d hj hp hd h)).elim
  · exact h

set_option maxHeartbeats 4000000 in
set_option maxRecDepth 100000 in
theorem bsP_any (x y : Value) (M : List Lp) (key : List UInt8) (w : World) (hx : Prs w x M) (hy : Rd w y key) (hl : M.length ≤ 1000000) (hmono : Mono (M.map fun m => cmpB m.key key)) :
    Calls Try.prog 57 #[x, y, .func (.func 42) #[] #[]] w (SeekR (M.map fun m => cmpB m.key key) w) := by
  obtain ⟨ao, c, rfl, hm⟩ := hx.form
  have HX := hid hx
  have HY := hid hy
  have HM := hid hmono
  have eg : ∀ args w, (callFunc 42 args).run Try.prog w = .ok (.enter 42 args) w := enters_of Try.func42 (by kernel_rfl) rfl
  clear hx hy hm hmono
  go_enter Try.func57, Try.ntmps57
  go_wp2_with fail
  go_loopw [9, 10] (fun i j wr => ∃ (p q : Nat), p ≤ q ∧ q ≤ M.length ∧ i = .int .i64 p ∧ j = .int .i64 q ∧ (∀ (s : Nat) c, s < p → (M.map fun m => cmpB m.key key)[s]? = some c → c < 0) ∧ (∀ (s : Nat) c, q ≤ s → (M.map fun m => cmpB m.key key)[s]? = some c → 0 ≤ c) ∧ Below w.heap.size w wr) (fun i j _ => (intOf j).toNat - (intOf i).toNat)
  case atStart => exact ⟨0, M.length, by omega, by omega, rfl, rfl, fun _ _ h => by omega, fun s c h hc => by simp at hc; obtain ⟨m, hm, _⟩ := hc; have := (List.getElem?_eq_some_iff.1 hm).1; omega, Below.refl _ _⟩
  case round =>
    obtain ⟨p, q, hpq, hq, rfl, rfl, h1, h2, hb⟩ := hrel
    have H1 := hid h1
    have H2 := hid h2
    have HB := hid hb
    clear h1 h2 hb
    by_cases hlt : p < q
    · have hv : M[(p + q) / 2]? = some (M[(p + q) / 2]'(by omega)) := List.getElem?_eq_getElem (by omega)
      generalize M[(p + q) / 2]'(by omega) = m at *
      obtain ⟨b, off, rfl, d1, d2, d3⟩ := (HX.out.old HB.out).get hv
      have hrd := (HX.out.old HB.out).at hv
      have C := against_any m y key _ hrd (HY.out.old HB.out)
      unfold pv at C
      have o1 := one_rd hrd.1
      have o2 := one_rd hrd.2
      have HV := hid hv
      have hh2 : ((p + q) / 2 : Nat) < M.length := by omega
      have HV : Hid ((M.map fun m => cmpB m.key key)[(p + q) / 2]? = some (cmpB m.key key)) := by show _ = _; rw [List.getElem?_map, hv]; rfl
      clear hv hrd
      go_wp2_with (first | (go_at_call 42; refine C.mono ?_; rintro e w' ⟨rfl, hb2⟩))
      · rename_i hc
        exact ⟨⟨(p + q) / 2 + 1, q, by omega, hq, by simp, rfl, srch_low (s := 0) HM.out HV.out hc, H2.out, HB.out.trans (hb2.mono HB.out.size)⟩, by simp [intOf]; omega⟩
      · rename_i hc
        exact ⟨⟨p, (p + q) / 2, by omega, by omega, rfl, by simp, H1.out, srch_high HM.out HV.out (by omega), HB.out.trans (hb2.mono HB.out.size)⟩, by simp [intOf]; omega⟩
    · obtain rfl : p = q := by omega
      by_cases hlt2 : p < M.length
      · have hv : M[p]? = some M[p] := List.getElem?_eq_getElem hlt2
        generalize M[p] = m at *
        obtain ⟨b, off, rfl, d1, d2, d3⟩ := (HX.out.old HB.out).get hv
        have hrd := (HX.out.old HB.out).at hv
        have C := against_any m y key _ hrd (HY.out.old HB.out)
        unfold pv at C
        have o1 := one_rd hrd.1
        have o2 := one_rd hrd.2
        have HV : Hid ((M.map fun m => cmpB m.key key)[p]? = some (cmpB m.key key)) := by show _ = _; rw [List.getElem?_map, hv]; rfl
        clear hv hrd
        go_wp2_with (first | (go_at_call 42; refine C.mono ?_; rintro e w' ⟨rfl, hb2⟩))
        go_ret2
        refine ⟨p, ⟨by rw [List.length_map]; exact hq, H1.out, H2.out⟩, ?_, HB.out.trans (hb2.mono HB.out.size)⟩
        rw [HV.out]
        simp
        rfl
      · go_wp2_with fail
        go_ret2
        refine ⟨p, ⟨by rw [List.length_map]; exact hq, H1.out, H2.out⟩, ?_, HB.out⟩
        rw [List.getElem?_eq_none (by rw [List.length_map]; omega)]
        rfl

/-- The key of a page's last pair. -/
def lastK (g : Pg) : List UInt8 := match g.M[g.M.length - 1]? with
  | some m => m.key
  | none => []

theorem lastK_eq {g : Pg} {m : Lp} (h : g.M[g.M.length - 1]? = some m) : lastK g = m.key := by unfold lastK; rw [h]
theorem last_is {g : Pg} (h : g.M ≠ []) : ∃ m, g.M[g.M.length - 1]? = some m :=
  ⟨_, List.getElem?_eq_getElem (by have := List.length_pos_iff.2 h; omega)⟩

set_option maxHeartbeats 4000000 in
set_option maxRecDepth 100000 in
theorem bsG_any (x y : Value) (M : List Pg) (key : List UInt8) (w : World) (hx : Pgs w x M) (hy : Rd w y key) (hne : ∀ g ∈ M, g.M ≠ []) (hl : M.length ≤ 1000000) (hmono : Mono (M.map fun m => cmpB (lastK m) key)) :
    Calls Try.prog 55 #[x, y, .func (.func 56) #[] #[]] w (SeekR (M.map fun m => cmpB (lastK m) key) w) := by
  obtain ⟨ao, c, rfl, hm⟩ := hx.form
  have HX := hid hx
  have HY := hid hy
  have HM := hid hmono
  have HNE := hid hne
  have eg : ∀ args w, (callFunc 56 args).run Try.prog w = .ok (.enter 56 args) w := enters_of Try.func56 (by kernel_rfl) rfl
  clear hx hy hm hmono hne
  go_enter Try.func55, Try.ntmps55
  go_wp2_with fail
  go_loopw [9, 10] (fun i j wr => ∃ (p q : Nat), p ≤ q ∧ q ≤ M.length ∧ i = .int .i64 p ∧ j = .int .i64 q ∧ (∀ (s : Nat) c, s < p → (M.map fun m => cmpB (lastK m) key)[s]? = some c → c < 0) ∧ (∀ (s : Nat) c, q ≤ s → (M.map fun m => cmpB (lastK m) key)[s]? = some c → 0 ≤ c) ∧ Below w.heap.size w wr) (fun i j _ => (intOf j).toNat - (intOf i).toNat)
  case atStart => exact ⟨0, M.length, by omega, by omega, rfl, rfl, fun _ _ h => by omega, fun s c h hc => by simp at hc; obtain ⟨m, hm, _⟩ := hc; have := (List.getElem?_eq_some_iff.1 hm).1; omega, Below.refl _ _⟩
  case round =>
    obtain ⟨p, q, hpq, hq, rfl, rfl, h1, h2, hb⟩ := hrel
    have H1 := hid h1
    have H2 := hid h2
    have HB := hid hb
    clear h1 h2 hb
    by_cases hlt : p < q
    · have hv : M[(p + q) / 2]? = some (M[(p + q) / 2]'(by omega)) := List.getElem?_eq_getElem (by omega)
      generalize M[(p + q) / 2]'(by omega) = g at *
      obtain ⟨b, off, rfl, d1⟩ := (HX.out.old HB.out).get hv
      obtain ⟨m, hm⟩ := last_is (HNE.out g (List.mem_of_getElem? hv))
      have hrd := (HX.out.old HB.out).at hv
      have C := last_any g y key m _ hrd (HY.out.old HB.out) hm
      rw [Nat.mul_one] at d1
      have hh2 : ((p + q) / 2 : Nat) < M.length := by omega
      have HV : Hid ((M.map fun m => cmpB (lastK m) key)[(p + q) / 2]? = some (cmpB m.key key)) := by show _ = _; rw [List.getElem?_map, hv, ← lastK_eq hm]; rfl
      clear hv hrd hm
      go_wp2_with (first | (go_at_call 56; refine C.mono ?_; rintro e w' ⟨rfl, hb2⟩))
      · rename_i hc
        exact ⟨⟨(p + q) / 2 + 1, q, by omega, hq, by simp, rfl, srch_low (s := 0) HM.out HV.out hc, H2.out, HB.out.trans (hb2.mono HB.out.size)⟩, by simp [intOf]; omega⟩
      · rename_i hc
        exact ⟨⟨p, (p + q) / 2, by omega, by omega, rfl, by simp, H1.out, srch_high HM.out HV.out (by omega), HB.out.trans (hb2.mono HB.out.size)⟩, by simp [intOf]; omega⟩
    · obtain rfl : p = q := by omega
      by_cases hlt2 : p < M.length
      · have hv : M[p]? = some M[p] := List.getElem?_eq_getElem hlt2
        generalize M[p] = g at *
        obtain ⟨b, off, rfl, d1⟩ := (HX.out.old HB.out).get hv
        obtain ⟨m, hm⟩ := last_is (HNE.out g (List.mem_of_getElem? hv))
        have hrd := (HX.out.old HB.out).at hv
        have C := last_any g y key m _ hrd (HY.out.old HB.out) hm
        rw [Nat.mul_one] at d1
        have HV : Hid ((M.map fun m => cmpB (lastK m) key)[p]? = some (cmpB m.key key)) := by show _ = _; rw [List.getElem?_map, hv, ← lastK_eq hm]; rfl
        clear hv hrd hm
        go_wp2_with (first | (go_at_call 56; refine C.mono ?_; rintro e w' ⟨rfl, hb2⟩))
        go_ret2
        refine ⟨p, ⟨by rw [List.length_map]; exact hq, H1.out, H2.out⟩, ?_, HB.out.trans (hb2.mono HB.out.size)⟩
        rw [HV.out]
        simp
        rfl
      · go_wp2_with fail
        go_ret2
        refine ⟨p, ⟨by rw [List.length_map]; exact hq, H1.out, H2.out⟩, ?_, HB.out⟩
        rw [List.getElem?_eq_none (by rw [List.length_map]; omega)]
        rfl
end Go.Proofs.Ytcgnghkjkdkmmaa
