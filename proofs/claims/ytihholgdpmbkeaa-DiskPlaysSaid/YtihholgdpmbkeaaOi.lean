/-
  THE HELPERS' OWN, KEPT, PLAIN, over numbers.
-/
import Derived.Test.YtihholgdpmbkeaaOb
import Derived.Test.YtihholgdpmbkeaaRws
set_option linter.unusedVariables false
namespace Go.Proofs.Ytihholgdpmbkeaa
open Go.RowKit

def iw (z : Int) : Value := .int .i64 z
/-- The slice x reads as the numbers ks. -/
def Ri (w : World) (x : Value) (ks : List Int) : Prop := Rws 1 w x (ks.map fun z => [.int .i64 z])
theorem flat_i (ks : List Int) : (ks.map fun z => [Value.int .i64 z]).flatten = ks.map iw := by
  induction ks with
  | nil => rfl
  | cons z l ih => rw [List.map_cons, List.flatten_cons, ih]; rfl
theorem iw_one (ks : List Int) : ∀ u ∈ ks.map iw, u.oneCell' = true := by
  intro u hu
  obtain ⟨_, _, rfl⟩ := List.mem_map.1 hu
  rfl
theorem wide_i (ks : List Int) : Wide 1 (ks.map fun z => [Value.int .i64 z]) := fun r hr => by
  obtain ⟨z, _, rfl⟩ := List.mem_map.1 hr
  exact ⟨rfl, fun u hu => by simp at hu; subst hu; rfl⟩
theorem Ri.form {w : World} {x : Value} {ks : List Int} (h : Ri w x ks) : ∃ ao c, x = .slice ao ks.length c ∧ ks.length ≤ c ∧ c ≤ maxLen ∧ (ao = none → c = 0) ∧ ∀ a, ao = some a → ∀ (j : Nat) u, (ks.map iw)[j]? = some u → w.cell? (a.add j) = some u := by
  obtain ⟨ao, c, rfl, h1, h2, h3, -, h4⟩ := h
  rw [List.length_map] at h1 ⊢
  rw [flat_i] at h4
  exact ⟨ao, c, rfl, h1, h2, h3, h4⟩
theorem Ri.mk {w : World} {ao : Option Addr} {c : Nat} {ks : List Int} (h1 : ks.length ≤ c) (h2 : c ≤ maxLen) (h3 : ao = none → c = 0) (h4 : ∀ a, ao = some a → ∀ (j : Nat) u, (ks.map iw)[j]? = some u → w.cell? (a.add j) = some u) : Ri w (.slice ao ks.length c) ks :=
  ⟨ao, c, by rw [List.length_map], by rw [List.length_map]; exact h1, h2, h3, wide_i ks, by rw [flat_i]; exact h4⟩
theorem Ri.old {w w' : World} {x : Value} {ks : List Int} (h : Ri w x ks) (hb : Below w.heap.size w w') : Ri w' x ks := Rws.old h hb
theorem Ri.len {P : Program} {w : World} {x : Value} {ks : List Int} (h : Ri w x ks) (t e ty : TypeId) (ht : P.underlying t = some (.slice e)) :
    ∀ W, (Builtin.len_ #[t] ty #[x]).run P W = .ok (goInt ks.length) W := by
  have := Rws.len (P := P) h t e ty ht
  rw [List.length_map] at this
  exact this
theorem Ri.at {w : World} {x : Value} {l : List Int} (h : Ri w x l) (hl : 0 < l.length) :
    ∃ b off c, x = .slice (some ⟨b, off, none⟩) l.length c ∧ l.length ≤ c ∧ c ≤ maxLen ∧ ∀ j (hj : j < l.length), w.cell? ⟨b, off + j, none⟩ = some (.int .i64 (l[j])) := by
  obtain ⟨ao, c, rfl, h1, h2, h3, h4⟩ := h.form
  cases ao with
  | none => have := h3 rfl; omega
  | some a =>
    obtain ⟨b, off, spot⟩ := a
    have h0 := h4 _ rfl 0 (iw l[0]) (by simp [List.getElem?_eq_getElem hl])
    have hspot : spot = none := by simpa [Addr.add] using World.cell?_spot h0
    subst hspot
    refine ⟨b, off, c, rfl, h1, h2, fun j hj => ?_⟩
    have hj' := h4 _ rfl j (iw l[j]) (by simp [List.getElem?_eq_getElem hj])
    rw [WideShapes.add_plain] at hj'
    exact hj'

/-- 'append(out, x...)' within the capacity. -/
theorem wpi_app_fits {P : Program} {w : World} {ops : Array Oper} {rest : List Oper} {o : Oper} {a : Act} {Q : Exit → Act → World → Prop} (hgd : o.guard = none) (s x : Operand) (t : TypeId)
    (ho : o.op = .call { callee := .builtin .append, args := #[s, x], argTypes := #[t, t] })
    (base : Nat) (e : TypeId) (ht : P.underlying t = some (.slice e)) (hinfo : (P.info? e).map (fun i => (i.zero, i.size, i.bytes)) = some (some (.int .i64 0), 1, 8))
    (g k cap : Nat) (xs : List Value) (hs : a.eval s = .slice (some ⟨g, 0, none⟩) k cap) (hown : w.ownsRow base e 1 (.slice (some ⟨g, 0, none⟩) k cap) k xs)
    (y : Value) (l : List Int) (hx : a.eval x = y) (hr : Ri w y l) (hfit : k + l.length ≤ cap)
    (h : ∀ w', w'.ownsRow base e 1 (.slice (some ⟨g, 0, none⟩) (k + l.length) cap) (k + l.length) (xs ++ l.map iw) → w.grownBy w' (some g) → wpList P ops Q rest (a.put o.dst (.slice (some ⟨g, 0, none⟩) (k + l.length) cap)) w') : wpList P ops Q (o :: rest) a w := by
  obtain ⟨i0, hi, hz0, hz1, hz2⟩ := info_parts hinfo
  obtain ⟨ao, c, rfl, h1, h2, h3, h4⟩ := hr.form
  refine wpList_append_fits_any w hgd s x t ho base e i0 1 ht hi hz1 g k cap xs hs hown ao l.length c (l.map iw) hx (by simp) (fun hn => ?_) (fun ad had => h4 ad had) (iw_one l) hfit h
  have := h3 hn
  omega

/-- A row wholly owned: what its head reads as. -/
theorem Ri.of_full {w : World} {base g n k : Nat} {e : TypeId} {xs : List Value} {l : List Int} (h : w.ownsRow base e 1 (.slice (some ⟨g, 0, none⟩) n n) n xs) (hk : l.length ≤ n) (ht : xs.take l.length = l.map iw) (hkk : k = l.length) : Ri w (.slice (some ⟨g, 0, none⟩) k n) l := by
  subst hkk
  have hxl := h.1
  rcases h.2 with ⟨h', _⟩ | ⟨g', cap', cur, h', hb, hg, hnc, hcm, hcs, htake⟩
  · simp at h'
  · simp only [Value.slice.injEq, Option.some.injEq, Addr.mk.injEq, and_true, true_and] at h'
    obtain ⟨rfl, rfl⟩ := h'
    refine Ri.mk hk hcm (fun h => by cases h) (fun a ha j u hu => ?_)
    cases ha
    have hj : j < l.length := by
      have := (List.getElem?_eq_some_iff.1 hu).1
      simpa using this
    rw [WideShapes.add_plain, Nat.zero_add, h.cellAt j (by omega)]
    rw [← ht, List.getElem?_take_of_lt hj] at hu
    exact hu

/-- A copy of its own, with three bytes behind it. -/
def OwnIs_i (w : World) (l : List Int) (f : Int) (en : Ending) (w' : World) : Prop :=
  ∃ g, en = .returned (.slice (some ⟨g, 0, none⟩) l.length (l.length + 3)) ∧ w.heap.size ≤ g ∧
    w'.ownsRow w.heap.size 3 1 (.slice (some ⟨g, 0, none⟩) (l.length + 3) (l.length + 3)) (l.length + 3) (l.map iw ++ List.replicate 3 (iw f)) ∧ Below w.heap.size w w'

set_option maxHeartbeats 1000000 in
set_option maxRecDepth 100000 in
theorem owni_any (x : Value) (l : List Int) (f : Int) (w : World) (hx : Ri w x l) (hl : l.length * 8 ≤ 140737488355328) :
    Calls Try.prog 17 #[x, .int .i64 f] w (OwnIs_i w l f) := by
  have hlen := hx.len (P := Try.prog) 31 3
  obtain ⟨i0, hi, hz0, hz1, hz2⟩ := info_parts (show (Try.prog.info? 3).map (fun i => (i.zero, i.size, i.bytes)) = some (some (.int .i64 0), 1, 8) by kernel_rfl)
  go_enter Try.func17, Try.ntmps17
  go_wp2_with (first
    | (at_make; refine wpList_make_own _ rfl _ _ 31 rfl w.heap.size 3 i0 (.int .i64 0) 1 Try.underlying31 hi hz0 hz1 _ _ _ (l.length + 3) rfl rfl ?m1 ?m2 ?m3 ?m4 ?_))
  case m1 => simp
  case m2 => rw [hz2]; omega
  case m3 => unfold maxLen; omega
  case m4 => exact Nat.le_refl _
  intro w1 o1 g1
  have B1 : Below w.heap.size w w1 := (Below.refl _ _).grown g1 (Nat.le_refl _) (fun k hk => by cases hk)
  have hx1 := hx.old B1
  go_wp2_with (first
    | (at_builtin; refine wpi_app_fits rfl _ _ 31 rfl w.heap.size 3 Try.underlying31 (by kernel_rfl) w.heap.size 0 (l.length + 3) [] rfl o1 _ l rfl hx1 ?c1 ?_))
  case c1 => omega
  intro w2 o2 g2
  have B2 := B1.grown g2 B1.size (fun k hk => by simp at hk; omega)
  obtain ⟨ys, hfull, htk⟩ := own_full o2
  have h0 : Hid (w2.ownsRow w.heap.size 3 1 (.slice (some ⟨w.heap.size, 0, none⟩) (l.length + 3) (l.length + 3)) (l.length + 3) ys ∧ ys.take (l.length + 0) = l.map iw ++ List.replicate 0 (iw f)) := by
    refine ⟨hfull, ?_⟩
    simpa using htk
  clear o1 g1 o2 g2 hx1 hfull htk B1 hz0 hz1 hz2 hi
  go_wp2_with fail
  go_loopw [7] (fun i wr => ∃ (k : Nat) (ys : List Value), k ≤ 3 ∧ i = .int .i64 ((l.length + k : Nat) : Int) ∧ wr.ownsRow w.heap.size 3 1 (.slice (some ⟨w.heap.size, 0, none⟩) (l.length + 3) (l.length + 3)) (l.length + 3) ys ∧ ys.take (l.length + k) = l.map iw ++ List.replicate k (iw f) ∧ Below w.heap.size w wr)
    (fun i _ => l.length + 3 - (intOf i).toNat)
  case atStart => exact ⟨0, ys, by omega, rfl, h0.out.1, h0.out.2, B2⟩
  case round =>
    obtain ⟨k, ys, hk, rfl, hown, htake, hb⟩ := hrel
    by_cases hlt : k < 3
    · have hyl : ys.length = l.length + 3 := by simpa using hown.1
      have hc1 : wr.cell? ⟨w.heap.size, l.length + k, none⟩ = some (ys[l.length + k]'(by omega)) := by
        rw [hown.cellAt (l.length + k) (by omega)]; exact List.getElem?_eq_getElem _
      have hf1 := hown.frozenAt (l.length + k)
      have hst := hid (hown.stored (l.length + k) (iw f))
      have hr := hid (own_round (n := l.length) htake (by simp) (by omega))
      have hb' := hid (hb.grown hst.out.2 hb.size (fun k hk => by simp at hk; omega))
      generalize ys[l.length + k]'(by omega) = old at *
      clear hown htake hyl hb B2 h0 hlen
      go_wp2_with fail
      go_roundw
      case rel => exact ⟨k + 1, _, by omega, by go_num, hst.out.1, hr.out, hb'.out⟩
      case measure => simp [intOf]; omega
    · obtain rfl : k = 3 := by omega
      have hyl : ys.length = l.length + 3 := by simpa using hown.1
      have hh := hid (And.intro hown (And.intro htake hb))
      clear hown htake hb
      go_wp2_with fail
      go_ret
      refine ⟨w.heap.size, rfl, Nat.le_refl _, ?_, hh.out.2.2⟩
      have := hh.out.2.1
      rw [List.take_of_length_le (by omega)] at this
      rw [← this]
      exact hh.out.1

set_option maxHeartbeats 1000000 in
set_option maxRecDepth 100000 in
theorem plain1i_any (a b : Int) (w : World) :
    Calls Try.prog 46 #[.int .i64 a, .int .i64 b] w fun e w' => e = .returned (.bool (a == b)) ∧ w' = w := by
  go_enter Try.func46, Try.ntmps46
  go_wp2
  go_ret
  exact ⟨rfl, rfl⟩

set_option maxHeartbeats 1000000 in
set_option maxRecDepth 100000 in
theorem samei_eq (x y : Value) (l : List Int) (w : World) (hx : Ri w x l) (hy : Ri w y l) :
    Calls Try.prog 45 #[x, y, .func (.func 46) #[] #[]] w (Draws w (.bool true)) := by
  by_cases hl : l = []
  · subst hl
    obtain ⟨a1, c1, rfl, -⟩ := hx.form
    obtain ⟨a2, c2, rfl, -⟩ := hy.form
    go_enter Try.func45, Try.ntmps45
    go_wp2_with fail
    refine wp_loop_rounds 1 ?_
    rw [rounds_succ]
    go_wp2_with fail
    go_ret
    exact ⟨rfl, 0, rfl⟩
  · have hlen : 0 < l.length := List.length_pos_iff.2 hl
    obtain ⟨b, off, cp, rfl, h1, h2, hc⟩ := hx.at hlen
    obtain ⟨b', off', cp', rfl, h1', h2', hc'⟩ := hy.at hlen
    unfold maxLen at h2 h2'
    clear hx hy
    go_enter Try.func45, Try.ntmps45
    go_wp2_with fail
    go_loopw [7] (fun i wr => ∃ k n : Nat, k ≤ l.length ∧ i = .int .i64 k ∧ wr = w.drewN n) (fun i _ => l.length - (intOf i).toNat)
    case atStart => exact ⟨0, 0, by omega, rfl, rfl⟩
    case round =>
      obtain ⟨k, n, hk, rfl, rfl⟩ := hrel
      by_cases hlt : k < l.length
      · have f1 := hc k hlt
        have f2 := hc' k hlt
        generalize l[k] = q at *
        clear hc hc'
        have g1 : (w.drewN n).cell? ⟨b, off + k, none⟩ = some (.int .i64 q) := f1
        have g2 : (w.drewN n).cell? ⟨b', off' + k, none⟩ = some (.int .i64 q) := f2
        go_wp2_with fail
        have C := fun a => (plain1i_any q q (w.drewN (n + a))).mono (R' := fun e w'' => e = Ending.returned (.bool true) ∧ ∃ m, w'' = w.drewN (n + m)) fun _ _ h => ⟨by rw [h.1]; simp, a, h.2⟩
        go_quiet ((go_at_call 46; exact C _))
        go_wp2_with fail
        go_roundw
        case rel => exact ⟨k + 1, _, by omega, by go_num, rfl⟩
        case measure => simp [intOf]; omega
      · clear hc hc'
        go_wp2_with fail
        go_ret
        exact ⟨rfl, n, rfl⟩

set_option maxHeartbeats 1000000 in
set_option maxRecDepth 100000 in
theorem plaini_eq (x y : Value) (l : List Int) (w : World) (hx : Ri w x l) (hy : Ri w y l) :
    Calls Try.prog 39 #[x, y] w (Draws w (.bool true)) := by
  go_enter Try.func39, Try.ntmps39
  go_wp2_with fail
  refine (samei_eq x y l w hx hy).mono ?_
  rintro en w1 ⟨rfl, n, rfl⟩
  go_wp2_with fail
  go_ret
  exact ⟨rfl, n, rfl⟩

set_option maxHeartbeats 1000000 in
set_option maxRecDepth 100000 in
/-- The copy is as it was, with what is behind it. -/
theorem kepti_any (x : Value) (l : List Int) (f : Int) (w : World) (g base : Nat) (hx : Ri w x l) (hl : l.length * 8 ≤ 140737488355328)
    (ho : w.ownsRow base 3 1 (.slice (some ⟨g, 0, none⟩) (l.length + 3) (l.length + 3)) (l.length + 3) (l.map iw ++ List.replicate 3 (iw f))) :
    Calls Try.prog 20 #[.slice (some ⟨g, 0, none⟩) l.length (l.length + 3), x, .int .i64 f] w (Draws w (.bool true)) := by
  have hlen := hx.len (P := Try.prog) 31 3
  have hr : Ri w (.slice (some ⟨g, 0, none⟩) l.length (l.length + 3)) l := Ri.of_full ho (by omega) (by rw [List.take_left' (by simp)]) rfl
  go_enter Try.func20, Try.ntmps20
  go_wp2_with fail
  refine (plaini_eq _ x l w hr hx).mono ?_
  rintro en w1 ⟨rfl, n, rfl⟩
  clear hr
  go_wp2_with fail
  go_loop [8] (fun i => ∃ k : Nat, k ≤ 3 ∧ i = .int .i64 ((l.length + k : Nat) : Int)) (fun i => l.length + 3 - (intOf i).toNat)
  case atStart => exact ⟨0, by omega, rfl⟩
  case round =>
    obtain ⟨k, hk, rfl⟩ := hrel
    by_cases hlt : k < 3
    · have hc1 : (w.drewN n).cell? ⟨g, l.length + k, none⟩ = some (.int .i64 f) := by
        show w.cell? ⟨g, l.length + k, none⟩ = _
        rw [ho.cellAt (l.length + k) (by omega), List.getElem?_append_right (by simp)]
        simp only [List.length_map, Nat.add_sub_cancel_left]
        rw [List.getElem?_replicate, if_pos hlt]; rfl
      clear ho hlen
      go_wp2_with fail
      go_round
      case rel => exact ⟨k + 1, by omega, by go_num⟩
      case measure => simp [intOf]; omega
    · obtain rfl : k = 3 := by omega
      clear ho hlen
      go_wp2_with fail
      go_ret
      exact ⟨rfl, n, rfl⟩

end Go.Proofs.Ytihholgdpmbkeaa
