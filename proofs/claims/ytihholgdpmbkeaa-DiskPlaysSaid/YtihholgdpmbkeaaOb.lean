/-
  THE HELPERS' OWN, KEPT, PLAIN, SPOIL, over bytes.
-/
import Derived.Test.YtihholgdpmbkeaaBytes
import Derived.OwnWalk
import Derived.LoopN
import Derived.BigQuiet
import Derived.Deep.QuietTactic
namespace Go.Proofs.Ytihholgdpmbkeaa
open Go.RowKit

theorem Rd.at' {w : World} {x : Value} {l : List UInt8} (h : Rd w x l) (hl : 0 < l.length) :
    ∃ b off c, x = .slice (some ⟨b, off, none⟩) l.length c ∧ l.length ≤ c ∧ c ≤ maxLen ∧ ∀ j (hj : j < l.length), w.cell? ⟨b, off + j, none⟩ = some (.int .u8 ((l[j]).toNat : Int)) := by
  obtain ⟨ao, c, rfl, h1, h2, h3, h4⟩ := h
  cases ao with
  | none => have := h3 rfl; omega
  | some a =>
    obtain ⟨b, off, spot⟩ := a
    have h0 := h4 _ rfl 0 (bv l[0]) (by simp [List.getElem?_eq_getElem hl])
    have hspot : spot = none := by simpa [Addr.add] using World.cell?_spot h0
    subst hspot
    refine ⟨b, off, c, rfl, h1, h2, fun j hj => ?_⟩
    have hj' := h4 _ rfl j (bv l[j]) (by simp [List.getElem?_eq_getElem hj])
    rw [WideShapes.add_plain] at hj'
    exact hj'

/-- 'append(out, x...)' within the capacity. -/
theorem wp_app_fits {P : Program} {w : World} {ops : Array Oper} {rest : List Oper} {o : Oper} {a : Act} {Q : Exit → Act → World → Prop} (hgd : o.guard = none) (s x : Operand) (t : TypeId)
    (ho : o.op = .call { callee := .builtin .append, args := #[s, x], argTypes := #[t, t] })
    (base : Nat) (e : TypeId) (ht : P.underlying t = some (.slice e)) (hinfo : (P.info? e).map (fun i => (i.zero, i.size, i.bytes)) = some (some (.int .u8 0), 1, 1))
    (g k cap : Nat) (xs : List Value) (hs : a.eval s = .slice (some ⟨g, 0, none⟩) k cap) (hown : w.ownsRow base e 1 (.slice (some ⟨g, 0, none⟩) k cap) k xs)
    (y : Value) (l : List UInt8) (hx : a.eval x = y) (hr : Rd w y l) (hfit : k + l.length ≤ cap)
    (h : ∀ w', w'.ownsRow base e 1 (.slice (some ⟨g, 0, none⟩) (k + l.length) cap) (k + l.length) (xs ++ l.map bv) → w.grownBy w' (some g) → wpList P ops Q rest (a.put o.dst (.slice (some ⟨g, 0, none⟩) (k + l.length) cap)) w') : wpList P ops Q (o :: rest) a w := by
  obtain ⟨i0, hi, hz0, hz1, hz2⟩ := info_parts hinfo
  obtain ⟨ao, c, rfl, h1, h2, h3, h4⟩ := hr
  refine wpList_append_fits_any w hgd s x t ho base e i0 1 ht hi hz1 g k cap xs hs hown ao l.length c (l.map bv) hx (by simp) (fun hn => ?_) (fun ad had => h4 ad had) (bv_one l) hfit h
  have := h3 hn
  omega

/-- A row wholly owned: what its head reads as. -/
theorem Rd.of_full {w : World} {base g n k : Nat} {e : TypeId} {xs : List Value} {l : List UInt8} (h : w.ownsRow base e 1 (.slice (some ⟨g, 0, none⟩) n n) n xs) (hk : l.length ≤ n) (ht : xs.take l.length = l.map bv) (hkk : k = l.length) : Rd w (.slice (some ⟨g, 0, none⟩) k n) l := by
  subst hkk
  have hxl := h.1
  rcases h.2 with ⟨h', _⟩ | ⟨g', cap', cur, h', hb, hg, hnc, hcm, hcs, htake⟩
  · simp at h'
  · simp only [Value.slice.injEq, Option.some.injEq, Addr.mk.injEq, and_true, true_and] at h'
    obtain ⟨rfl, rfl⟩ := h'
    refine ⟨_, _, rfl, hk, hcm, (fun h => by cases h), fun a ha j u hu => ?_⟩
    cases ha
    have hj : j < l.length := by
      have := (List.getElem?_eq_some_iff.1 hu).1
      simpa using this
    rw [WideShapes.add_plain, Nat.zero_add, h.cellAt j (by omega)]
    rw [← ht, List.getElem?_take_of_lt hj] at hu
    exact hu

/-- A row of which a part is used: the whole of it. -/
theorem own_full {w : World} {base g n cap : Nat} {e : TypeId} {xs : List Value} (h : w.ownsRow base e 1 (.slice (some ⟨g, 0, none⟩) n cap) n xs) :
    ∃ ys, w.ownsRow base e 1 (.slice (some ⟨g, 0, none⟩) cap cap) cap ys ∧ ys.take n = xs := by
  rcases h.2 with ⟨h', _⟩ | ⟨g', cap', cur, h', hb, hg, hnc, hcm, hcs, htake⟩
  · simp at h'
  · simp only [Value.slice.injEq, Option.some.injEq, Addr.mk.injEq, and_true, true_and] at h'
    obtain ⟨rfl, rfl⟩ := h'
    refine ⟨cur.toList, ⟨by simpa using hcs, .inr ⟨g, cap, cur, rfl, hb, hg, Nat.le_refl _, hcm, hcs, ?_⟩⟩, by simpa using htake⟩
    exact List.take_of_length_le (by rw [Array.length_toList, hcs]; exact Nat.le_refl _)

/-- A copy of its own, with three bytes behind it. -/
def OwnIs (w : World) (l : List UInt8) (f : UInt8) (en : Ending) (w' : World) : Prop :=
  ∃ g, en = .returned (.slice (some ⟨g, 0, none⟩) l.length (l.length + 3)) ∧ w.heap.size ≤ g ∧
    w'.ownsRow w.heap.size 5 1 (.slice (some ⟨g, 0, none⟩) (l.length + 3) (l.length + 3)) (l.length + 3) (l.map bv ++ List.replicate 3 (bv f)) ∧ Below w.heap.size w w'

theorem own_round {xs ys : List Value} {k n : Nat} {v : Value} (hx : xs.take (n + k) = ys ++ List.replicate k v) (_hy : ys.length = n) (hlt : n + k < xs.length) : (xs.set (n + k) v).take (n + (k + 1)) = ys ++ List.replicate (k + 1) v := by
  have e1 : (xs.set (n + k) v).take (n + k + 1) = (xs.set (n + k) v).take (n + k) ++ [v] := by
    rw [List.take_succ_eq_append_getElem (by simpa using hlt)]
    simp
  rw [← Nat.add_assoc, e1, List.take_set_of_le (Nat.le_refl _), hx, List.replicate_succ', List.append_assoc]

set_option maxHeartbeats 1000000 in
set_option maxRecDepth 100000 in
theorem own_any (x : Value) (l : List UInt8) (f : UInt8) (w : World) (hx : Rd w x l) (hl : l.length ≤ 140737488355328) :
    Calls Try.prog 26 #[x, .int .u8 (f.toNat : Int)] w (OwnIs w l f) := by
  have hlen := hx.len (P := Try.prog) 30 5
  obtain ⟨i0, hi, hz0, hz1, hz2⟩ := info_parts (show (Try.prog.info? 5).map (fun i => (i.zero, i.size, i.bytes)) = some (some (.int .u8 0), 1, 1) by kernel_rfl)
  go_enter Try.func26, Try.ntmps26
  go_wp2_with (first
    | (at_make; refine wpList_make_own _ rfl _ _ 30 rfl w.heap.size 5 i0 (.int .u8 0) 1 Try.underlying30 hi hz0 hz1 _ _ _ (l.length + 3) rfl rfl ?m1 ?m2 ?m3 ?m4 ?_))
  case m1 => simp
  case m2 => rw [hz2]; omega
  case m3 => unfold maxLen; omega
  case m4 => exact Nat.le_refl _
  intro w1 o1 g1
  have B1 : Below w.heap.size w w1 := (Below.refl _ _).grown g1 (Nat.le_refl _) (fun k hk => by cases hk)
  have hx1 := hx.old B1
  go_wp2_with (first
    | (at_builtin; refine wp_app_fits rfl _ _ 30 rfl w.heap.size 5 Try.underlying30 (by kernel_rfl) w.heap.size 0 (l.length + 3) [] rfl o1 _ l rfl hx1 ?c1 ?_))
  case c1 => omega
  intro w2 o2 g2
  have B2 := B1.grown g2 B1.size (fun k hk => by simp at hk; omega)
  obtain ⟨ys, hfull, htk⟩ := own_full o2
  have h0 : Hid (w2.ownsRow w.heap.size 5 1 (.slice (some ⟨w.heap.size, 0, none⟩) (l.length + 3) (l.length + 3)) (l.length + 3) ys ∧ ys.take (l.length + 0) = l.map bv ++ List.replicate 0 (bv f)) := by
    refine ⟨hfull, ?_⟩
    simpa using htk
  clear o1 g1 o2 g2 hx1 hfull htk B1 hz0 hz1 hz2 hi
  go_wp2_with fail
  go_loopw [7] (fun i wr => ∃ (k : Nat) (ys : List Value), k ≤ 3 ∧ i = .int .i64 ((l.length + k : Nat) : Int) ∧ wr.ownsRow w.heap.size 5 1 (.slice (some ⟨w.heap.size, 0, none⟩) (l.length + 3) (l.length + 3)) (l.length + 3) ys ∧ ys.take (l.length + k) = l.map bv ++ List.replicate k (bv f) ∧ Below w.heap.size w wr)
    (fun i _ => l.length + 3 - (intOf i).toNat)
  case atStart => exact ⟨0, ys, by omega, rfl, h0.out.1, h0.out.2, B2⟩
  case round =>
    obtain ⟨k, ys, hk, rfl, hown, htake, hb⟩ := hrel
    by_cases hlt : k < 3
    · have hyl : ys.length = l.length + 3 := by simpa using hown.1
      have hc1 : wr.cell? ⟨w.heap.size, l.length + k, none⟩ = some (ys[l.length + k]'(by omega)) := by
        rw [hown.cellAt (l.length + k) (by omega)]; exact List.getElem?_eq_getElem _
      have hf1 := hown.frozenAt (l.length + k)
      have hst := hid (hown.stored (l.length + k) (bv f))
      have hr := hid (own_round (n := l.length) htake (by simp) (by omega))
      have hb' := hid (hb.grown hst.out.2 hb.size (fun k hk => by simp at hk; omega))
      generalize ys[l.length + k]'(by omega) = old at *
      clear hown htake hyl hb B2 h0 hlen
      go_wp2_with fail
      go_roundw
      case rel => exact ⟨k + 1, _, by omega, by go_num, hst.out.1, hr.out, hb'.out⟩
      case measure => simp [intOf]; omega
    · obtain rfl : k = 3 := by omega
      have hyl : ys.length = l.length + 3 := by simpa using hown.1
      have hh := hid (And.intro hown (And.intro htake hb))
      clear hown htake hb
      go_wp2_with fail
      go_ret
      refine ⟨w.heap.size, rfl, Nat.le_refl _, ?_, hh.out.2.2⟩
      have := hh.out.2.1
      rw [List.take_of_length_le (by omega)] at this
      rw [← this]
      exact hh.out.1

/-- It answers true, and at most draws. -/
def Draws (w : World) (v : Value) (en : Ending) (w' : World) : Prop := en = .returned v ∧ ∃ n, w' = w.drewN n

theorem Draws.below {w w' : World} {v : Value} {en : Ending} (h : Draws w v en w') : Below w.heap.size w w' := by
  obtain ⟨_, n, rfl⟩ := h
  exact ⟨rfl, rfl, rfl, Nat.le_refl _, fun _ _ => rfl⟩

set_option maxHeartbeats 1000000 in
set_option maxRecDepth 100000 in
theorem plain1_any (a b : Int) (w : World) :
    Calls Try.prog 48 #[.int .u8 a, .int .u8 b] w fun e w' => e = .returned (.bool (a == b)) ∧ w' = w := by
  go_enter Try.func48, Try.ntmps48
  go_wp2
  go_ret
  exact ⟨rfl, rfl⟩

set_option maxHeartbeats 1000000 in
set_option maxRecDepth 100000 in
theorem same_eq (x y : Value) (l : List UInt8) (w : World) (hx : Rd w x l) (hy : Rd w y l) :
    Calls Try.prog 47 #[x, y, .func (.func 48) #[] #[]] w (Draws w (.bool true)) := by
  by_cases hl : l = []
  · subst hl
    obtain ⟨a1, c1, rfl, -⟩ := hx
    obtain ⟨a2, c2, rfl, -⟩ := hy
    go_enter Try.func47, Try.ntmps47
    go_wp2_with fail
    refine wp_loop_rounds 1 ?_
    rw [rounds_succ]
    go_wp2_with fail
    go_ret
    exact ⟨rfl, 0, rfl⟩
  · have hlen : 0 < l.length := List.length_pos_iff.2 hl
    obtain ⟨b, off, cp, rfl, h1, h2, hc⟩ := hx.at' hlen
    obtain ⟨b', off', cp', rfl, h1', h2', hc'⟩ := hy.at' hlen
    unfold maxLen at h2 h2'
    clear hx hy
    go_enter Try.func47, Try.ntmps47
    go_wp2_with fail
    go_loopw [7] (fun i wr => ∃ k n : Nat, k ≤ l.length ∧ i = .int .i64 k ∧ wr = w.drewN n) (fun i _ => l.length - (intOf i).toNat)
    case atStart => exact ⟨0, 0, by omega, rfl, rfl⟩
    case round =>
      obtain ⟨k, n, hk, rfl, rfl⟩ := hrel
      by_cases hlt : k < l.length
      · have f1 := hc k hlt
        have f2 := hc' k hlt
        generalize (l[k]).toNat = q at *
        clear hc hc'
        have g1 : (w.drewN n).cell? ⟨b, off + k, none⟩ = some (.int .u8 (q : Int)) := f1
        have g2 : (w.drewN n).cell? ⟨b', off' + k, none⟩ = some (.int .u8 (q : Int)) := f2
        go_wp2_with fail
        have C := fun a => (plain1_any (q : Int) (q : Int) (w.drewN (n + a))).mono (R' := fun e w'' => e = Ending.returned (.bool true) ∧ ∃ m, w'' = w.drewN (n + m)) fun _ _ h => ⟨by rw [h.1]; simp, a, h.2⟩
        go_quiet ((go_at_call 48; exact C _))
        go_wp2_with fail
        go_roundw
        case rel => exact ⟨k + 1, _, by omega, by go_num, rfl⟩
        case measure => simp [intOf]; omega
      · clear hc hc'
        go_wp2_with fail
        go_ret
        exact ⟨rfl, n, rfl⟩

set_option maxHeartbeats 1000000 in
set_option maxRecDepth 100000 in
theorem plain_eq (x y : Value) (l : List UInt8) (w : World) (hx : Rd w x l) (hy : Rd w y l) :
    Calls Try.prog 42 #[x, y] w (Draws w (.bool true)) := by
  go_enter Try.func42, Try.ntmps42
  go_wp2_with fail
  refine (same_eq x y l w hx hy).mono ?_
  rintro en w1 ⟨rfl, n, rfl⟩
  go_wp2_with fail
  go_ret
  exact ⟨rfl, n, rfl⟩

set_option maxHeartbeats 1000000 in
set_option maxRecDepth 100000 in
/-- The copy is as it was, with what is behind it. -/
theorem kept_any (x : Value) (l : List UInt8) (f : UInt8) (w : World) (g base : Nat) (hx : Rd w x l) (hl : l.length ≤ 140737488355328)
    (ho : w.ownsRow base 5 1 (.slice (some ⟨g, 0, none⟩) (l.length + 3) (l.length + 3)) (l.length + 3) (l.map bv ++ List.replicate 3 (bv f))) :
    Calls Try.prog 28 #[.slice (some ⟨g, 0, none⟩) l.length (l.length + 3), x, .int .u8 (f.toNat : Int)] w (Draws w (.bool true)) := by
  have hlen := hx.len (P := Try.prog) 30 5
  have hr : Rd w (.slice (some ⟨g, 0, none⟩) l.length (l.length + 3)) l := Rd.of_full ho (by omega) (by rw [List.take_left' (by simp)]) rfl
  go_enter Try.func28, Try.ntmps28
  go_wp2_with fail
  refine (plain_eq _ x l w hr hx).mono ?_
  rintro en w1 ⟨rfl, n, rfl⟩
  clear hr
  go_wp2_with fail
  go_loop [8] (fun i => ∃ k : Nat, k ≤ 3 ∧ i = .int .i64 ((l.length + k : Nat) : Int)) (fun i => l.length + 3 - (intOf i).toNat)
  case atStart => exact ⟨0, by omega, rfl⟩
  case round =>
    obtain ⟨k, hk, rfl⟩ := hrel
    by_cases hlt : k < 3
    · have hc1 : (w.drewN n).cell? ⟨g, l.length + k, none⟩ = some (.int .u8 (f.toNat : Int)) := by
        show w.cell? ⟨g, l.length + k, none⟩ = _
        rw [ho.cellAt (l.length + k) (by omega), List.getElem?_append_right (by simp)]
        simp only [List.length_map, Nat.add_sub_cancel_left]
        rw [List.getElem?_replicate, if_pos hlt]; rfl
      clear ho hlen
      go_wp2_with fail
      go_round
      case rel => exact ⟨k + 1, by omega, by go_num⟩
      case measure => simp [intOf]; omega
    · obtain rfl : k = 3 := by omega
      clear ho hlen
      go_wp2_with fail
      go_ret
      exact ⟨rfl, n, rfl⟩

/-- What is owned is spoilt: nothing else is written. -/
def Spoilt (w : World) (row : Option Nat) (en : Ending) (w' : World) : Prop := en = .returned (.tuple #[]) ∧ w.grownBy w' row

set_option maxHeartbeats 1000000 in
set_option maxRecDepth 100000 in
theorem spoil_any (w : World) (base g cap : Nat) (l : List UInt8) (ho : w.ownsRow base 5 1 (.slice (some ⟨g, 0, none⟩) l.length cap) l.length (l.map bv)) (hl : l.length ≤ 140737488355328) :
    Calls Try.prog 13 #[.slice (some ⟨g, 0, none⟩) l.length cap] w (Spoilt w (some g)) := by
  go_enter Try.func13, Try.ntmps13
  go_wp2_with fail
  go_loopw [2] (fun i wr => ∃ (k : Nat) (ys : List Value), k ≤ l.length ∧ i = .int .i64 (k : Int) ∧ wr.ownsRow base 5 1 (.slice (some ⟨g, 0, none⟩) l.length cap) l.length ys ∧ ys.drop k = (l.map bv).drop k ∧ w.grownBy wr (some g))
    (fun i _ => l.length - (intOf i).toNat)
  case atStart => exact ⟨0, _, by omega, rfl, ho, rfl, World.grownBy.refl _ _⟩
  case round =>
    obtain ⟨k, ys, hk, rfl, hown, hd, hg⟩ := hrel
    clear ho
    by_cases hlt : k < l.length
    · have hyk : ys[k]? = some (bv l[k]) := by
        have h1 : (ys.drop k)[0]? = ((l.map bv).drop k)[0]? := by rw [hd]
        simpa [List.getElem?_eq_getElem hlt] using h1
      have hc1 : wr.cell? ⟨g, k, none⟩ = some (.int .u8 ((l[k]).toNat : Int)) := by
        rw [hown.cellAt k (by omega), hyk]; rfl
      have hf1 := hown.frozenAt k
      have hst := fun u => hid (hown.stored k u)
      have hd2 : ∀ u, Hid ((ys.set k u).drop (k + 1) = (l.map bv).drop (k + 1)) := fun u => by
        have h2 : (ys.drop k).drop 1 = ((l.map bv).drop k).drop 1 := by rw [hd]
        rw [List.drop_drop, List.drop_drop] at h2
        show (ys.set k u).drop (k + 1) = _
        rw [List.drop_set_of_lt (by omega), h2]
      have hg' := hid hg
      generalize (l[k]).toNat = q at *
      clear hown hd hyk hg
      go_wp2_with fail
      go_roundw
      case rel => exact ⟨k + 1, _, by omega, by go_num, (hst _).out.1, (hd2 _).out, grown_trans hg'.out (hst _).out.2⟩
      case measure => simp [intOf]; omega
    · have hg' := hid hg
      clear hown hd hg
      go_wp2_with fail
      go_end0
      exact ⟨rfl, hg'.out⟩

set_option maxHeartbeats 1000000 in
set_option maxRecDepth 100000 in
theorem spoil_nil (w : World) : Calls Try.prog 13 #[.slice none 0 0] w (Spoilt w none) := by
  go_enter Try.func13, Try.ntmps13
  go_wp2_with fail
  refine wp_loop_rounds 1 ?_
  rw [rounds_succ]
  go_wp2_with fail
  go_end0
  exact ⟨rfl, World.grownBy.refl _ _⟩

theorem spoil_own (w : World) (base : Nat) (v : Value) (l : List UInt8) (ho : w.ownsRow base 5 1 v l.length (l.map bv)) (hl : l.length ≤ 140737488355328) :
    Calls Try.prog 13 #[v] w (Spoilt w v.ownBlock) := by
  rcases ho.2 with ⟨rfl, _⟩ | ⟨g, cap, cur, rfl, _⟩
  · exact spoil_nil w
  · exact spoil_any w base g cap l ho hl
end Go.Proofs.Ytihholgdpmbkeaa
