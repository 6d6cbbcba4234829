import Derived.WalkKit
import Derived.OpenShut
import Derived.Test.YtmdgifmigikffaaGreatRows
import Derived.WalkSpells
import Derived.WalkLawsBesides
import Derived.Laws.AppendOwnNone
import Derived.Deep.RegionHeld
import Derived.BigQuiet
import Derived.Deep.QuietTactic
import Derived.Test.YtmdgifmigikffaaGreatWX1
set_option linter.unusedVariables false
set_option linter.unusedSimpArgs false
namespace Go.Proofs.YtmdgifmigikffaaGreat
open Go.RowKit
set_option maxHeartbeats 1000000 in
set_option maxRecDepth 100000 in
theorem bytes_any (x y : Value) (l m : List UInt8) (w : World) (hx : Rd w x l) (hy : Rd w y m) :
 Calls Tryz.prog 52 #[x, y] w fun e w' => e = .returned (.bool (l == m)) ∧ w = w' := by
 have h1 := fun W (h : Rd W x l) => h.conv (P := Tryz.prog) 22 9 5 Tryz.underlying22 Tryz.underlying5 Tryz.underlying9
 have c1 := h1 w hx
 have c2 := hy.conv (P := Tryz.prog) 22 9 5 Tryz.underlying22 Tryz.underlying5 Tryz.underlying9
 clear h1 hx hy
 go_enter Tryz.func52, Tryz.ntmps52
 go_wp2_with fail
 go_ret
 exact ⟨rfl, rfl⟩
def textL (l : List UInt8) : List UInt8 := numL l.length ++ l
set_option maxHeartbeats 1000000 in
set_option maxRecDepth 100000 in
theorem text_any (x : Value) (l : List UInt8) (w : World) (hx : Rd w x l) (hl : l.length ≤ 140737488355300) :
 Calls Tryz.prog 166 #[x] w (Gives 5 w (textL l)) := by
 have hn := numL_len10 (v := l.length) (by omega)
 have hw : IntKind.u64.wrap (l.length : Int) = (l.length : Int) := by rw [wrap_u64]; omega
 have hlen := hx.len (P := Tryz.prog) 22 5
 go_enter Tryz.func166, Tryz.ntmps166
 go_wp2_with fail
 refine (num_any _ _ hn).mono ?_
 rintro e w1 h1
 obtain ⟨ao, c, rfl, h2, h3⟩ := h1.elim
 have hx1 := hx.old h3
 clear h1 hlen hw
 go_wp2_with (first
  | (at_builtin; refine wp_app rfl _ _ 22 rfl w.heap.size 5 Tryz.underlying22 (by kernel_rfl) _ _ _ rfl h2 _ l rfl hx1 ?c1 ?c2 ?_))
 case c1 => omega
 case c2 => exact h3.size
 intro v' w2 hown' hgrow
 have hb : Below w.heap.size w w2 := h3.grown hgrow h3.size (fun k hk => (h2.lt k hk).1)
 clear hgrow h2 hx1
 go_wp2_with fail
 go_ret
 exact ⟨_, rfl, by simpa [textL] using hown', hb⟩
end Go.Proofs.YtmdgifmigikffaaGreat
namespace Go.Proofs.YtmdgifmigikffaaGreat
open Go.RowKit
theorem unzig_zig {i : Int} (_h : (Lit.int .i64 i).wf = true) : unzig (zig i) = i := by
 unfold unzig zig
 split <;> split <;> omega
end Go.Proofs.YtmdgifmigikffaaGreat
namespace Go.Proofs.YtmdgifmigikffaaGreat
open Go
theorem jA {α : Type _} {xs : List α} {i : Nat} (h : i < xs.toArray.size) : xs.toArray[i] = xs[i] := rfl
theorem jB {α : Type _} (a : α) (xs : List α) (i : Nat) (h : i + 1 < (a :: xs).length) : (a :: xs)[i + 1] = xs[i]'(Nat.lt_of_succ_lt_succ h) := rfl
theorem jC {α : Type _} (a : α) (xs : List α) (h : 0 < (a :: xs).length) : (a :: xs)[0] = a := rfl
theorem jD {α : Type _} (l : List α) (i : Nat) (a : α) : l.toArray.setIfInBounds i a = (l.set i a).toArray := List.setIfInBounds_toArray l i a
theorem jE {α : Type _} {x : α} {xs : List α} {i : Nat} {a : α} : (x :: xs).set (i + 1) a = x :: xs.set i a := rfl
theorem jF {α : Type _} {x : α} {xs : List α} {a : α} : (x :: xs).set 0 a = a :: xs := rfl
section
variable {P : Program} {ops : Array Oper} {Q : Exit → Act → World → Prop} {md : Region.Mode} {S : World → Prop}
theorem tkH (i : Nat) (v : Value) {oi : Oper} {fuel : Nat} {listed : Array Bool} {a : Act} {w : World} (hi : ops[i]? = some oi)
 (hb : (Region.noSelect ops && Region.free md ops listed i && (Region.ready md ops listed).contains i) = true)
 (hQ : ∀ c a w, Q (.panic c) (a.put oi.dst v) w → Q (.panic c) a w) (hS : S w) (hy : YieldsIf P ops S oi v a)
 (h : wpAnyH P md ops Q S fuel (listed.setIfInBounds i true) (a.put oi.dst v) w) : wpAnyH P md ops Q S (fuel + 1) listed a w := by
 simp only [Bool.and_eq_true] at hb
 exact wpAnyH_take hi hb.1.1 hb.1.2 hb.2 hQ hy hS h
theorem rdH (i : Nat) {o : Oper} {fuel : Nat} {listed : Array Bool} {a : Act} {w : World} (hr : Region.ready md ops listed = [i]) (ho : ops[i]? = some o)
 (h : ∀ K' : Act → World → Prop, Shut (∀ a w, S w → (S w → wpAnyH P md ops Q S fuel (listed.setIfInBounds i true) a w) → K' a w) → if Region.wanted o (yielded ops a.tmps) = true then Oper.wp P o a w K' Q else K' (a.put o.dst undef) w) :
 wpAnyH P md ops Q S (fuel + 1) listed a w :=
 wpAnyH_ready hr (by simp) (AllReadyH.cons ho h AllReadyH.nil)
def wpAnyL (P : Program) (md : Region.Mode) (ops : Array Oper) (Q : Exit → Act → World → Prop) (S : World → Prop) (s : Nat) : Nat → Array Bool → Act → World → Prop
 | 0, listed, a, w => Region.ready md ops listed = [] ∧ Q .normal a w
 | fuel + 1, listed, a, w =>
  (Region.ready md ops listed = [] → Q .normal a w) ∧
  ∀ i ∈ Region.ready md ops listed, wpOp P ops Q i (fun a' w' => ((listed.setIfInBounds i true).getD s true = false → S w') ∧ wpAnyL P md ops Q S s fuel (listed.setIfInBounds i true) a' w') a w
theorem wpAny_of_L {s : Nat} : ∀ (fuel : Nat) (listed : Array Bool) (a : Act) (w : World), wpAnyL P md ops Q S s fuel listed a w → wpAny P md ops Q fuel listed a w
 | 0, _, _, _, h => h
 | fuel + 1, _, _, _, h => ⟨h.1, fun i hi => wpOp_mono (fun a' w' h' => wpAny_of_L fuel _ a' w' h'.2) (h.2 i hi)⟩
theorem wpAnyL_first {s i : Nat} {oi : Oper} {v : Value} (hi : ops[i]? = some oi) (hsel : ∀ (j : Nat) (o : Oper) cs b, ops[j]? = some o → o.op ≠ .select cs b)
 (hQ : ∀ c a w, Q (.panic c) (a.put oi.dst v) w → Q (.panic c) a w) (D : List Nat) (hiD : i ∈ D) (hsD : s ∈ D) (hsi : s ≠ i)
 (hD : ∀ d ∈ D, d ≠ i → ∀ o, ops[d]? = some o → ∃ e ∈ o.after, Region.binds md e = true ∧ e.on ∈ D) :
 ∀ (fuel : Nat) (listed : Array Bool) (a : Act) (w : World),
  (∀ j oj, ops[j]? = some oj → j ≠ i → listed.getD j true = false → (∀ e ∈ oj.after, Region.binds md e = true → e.on ≠ i) → oi.apart ops oj = true) →
  i ∈ Region.ready md ops listed → (∀ d ∈ D, listed.getD d true = false) → YieldsIf P ops S oi v a → S w →
  wpAnyL P md ops Q S s fuel (listed.setIfInBounds i true) (a.put oi.dst v) w → wpAnyL P md ops Q S s (fuel + 1) listed a w := by
 intro fuel
 induction fuel with
 | zero =>
  intro listed a w _ hr _ hy hS H
  refine ⟨fun h => (by rw [h] at hr; cases hr), fun j hj => ?_⟩
  by_cases hji : j = i
  · subst hji; exact hy.wpOp hi hS ⟨fun _ => hS, H⟩
  · have := ready_mono hj hji
    rw [H.1] at this
    cases this
 | succ fuel ih =>
  intro listed a w hfree hr hun hy hS H
  refine ⟨fun h => (by rw [h] at hr; cases hr), fun j hj => ?_⟩
  by_cases hji : j = i
  · subst hji; exact hy.wpOp hi hS ⟨fun _ => hS, H⟩
  · have h1 := H.2 j (ready_mono hj hji)
    obtain ⟨hjun, oj, hoj, hall⟩ := mem_ready.1 hj
    have hno : ∀ k, listed.getD k true = false → ∀ e ∈ oj.after, Region.binds md e = true → e.on ≠ k := fun k h0 e he hb heq => by
     have h1 := hall e he hb
     rw [heq] at h1
     rcases Nat.lt_or_ge k listed.size with h' | h'
     · simp [h'] at h0 h1; rw [h0] at h1; cases h1
     · simp [Array.getElem?_eq_none h'] at h1
    have hnot := hno i (mem_ready.1 hr).1
    have hjD : j ∉ D := fun h => by
     obtain ⟨e, he, hb, hon⟩ := hD j h hji oj hoj
     exact hno _ (hun _ hon) e he hb rfl
    have h2 := wpOp_putIf hoj (hfree j oj hoj hji hjun hnot) (fun cs b => hsel i oi cs b hi) (fun cs b => hsel j oj cs b hoj) hQ hy h1
    have hfree' : ∀ k ok, ops[k]? = some ok → k ≠ i → (listed.setIfInBounds j true).getD k true = false →
     (∀ e ∈ ok.after, Region.binds md e = true → e.on ≠ i) → oi.apart ops ok = true := fun k ok hk hki hun hno => by
     refine hfree k ok hk hki ?_ hno
     by_cases hjk : j = k
     · subst hjk; exact hjun
     · rw [getD_set_ne true hjk] at hun; exact hun
    have hun' : ∀ d ∈ D, (listed.setIfInBounds j true).getD d true = false := fun d hd => by
     rw [getD_set_ne true (fun e : j = d => hjD (by rw [e]; exact hd))]; exact hun d hd
    refine wpOp_mono (fun a' w' h3 => ?_) h2
    have hS' : S w' := h3.2.1 (by rw [getD_set_ne true (fun e : j = s => hjD (by rw [e]; exact hsD)), getD_set_ne true (Ne.symm hsi)]; exact hun s hsD)
    refine ⟨fun _ => hS', ih (listed.setIfInBounds j true) a' w' hfree' (ready_mono hr (Ne.symm hji)) hun' h3.1 hS' ?_⟩
    rw [Array.setIfInBounds_comm _ _ hji]
    exact h3.2.2
def lateB (md : Region.Mode) (ops : Array Oper) (listed : Array Bool) (s i : Nat) (D : List Nat) : Bool :=
 D.contains i && D.contains s && s != i && D.all (fun d => !(listed.getD d true) && (d == i || match ops[d]? with | some o => o.after.any (fun e => Region.binds md e && D.contains e.on) | none => true))
theorem tkL (i : Nat) (v : Value) (D : List Nat) {s : Nat} {oi : Oper} {fuel : Nat} {listed : Array Bool} {a : Act} {w : World} (hi : ops[i]? = some oi)
 (hb : (Region.noSelect ops && Region.free md ops listed i && (Region.ready md ops listed).contains i && lateB md ops listed s i D) = true)
 (hQ : ∀ c a w, Q (.panic c) (a.put oi.dst v) w → Q (.panic c) a w) (hS : S w) (hy : YieldsIf P ops S oi v a)
 (h : wpAnyL P md ops Q S s fuel (listed.setIfInBounds i true) (a.put oi.dst v) w) : wpAnyL P md ops Q S s (fuel + 1) listed a w := by
 simp only [Bool.and_eq_true, lateB, List.contains_iff_mem, bne_iff_ne, List.all_eq_true, Bool.not_eq_true', Bool.or_eq_true, beq_iff_eq] at hb
 obtain ⟨⟨⟨h1, h2⟩, h3⟩, ⟨⟨h4, h5⟩, h6⟩, h7⟩ := hb
 refine wpAnyL_first hi (Region.noSelect_spec h1) hQ D h4 h5 h6 (fun d hd hne o ho => ?_) fuel listed a w (Region.free_spec hi h2) (by simpa using h3) (fun d hd => (h7 d hd).1) hy hS h
 have h8 := (h7 d hd).2
 rw [ho] at h8
 rcases h8 with h8 | h8
 · exact absurd h8 hne
 · obtain ⟨e, he, hb⟩ := Array.any_eq_true'.1 h8
   simp only [Bool.and_eq_true, List.contains_iff_mem] at hb
   exact ⟨e, he, hb.1, hb.2⟩
theorem tkV (i : Nat) (v : Value) {s : Nat} {oi : Oper} {fuel : Nat} {listed : Array Bool} {a : Act} {w : World} (hi : ops[i]? = some oi)
 (hb : (Region.noSelect ops && Region.free md ops listed i && (Region.ready md ops listed).contains i && s != i) = true)
 (hQ : ∀ c a w, Q (.panic c) (a.put oi.dst v) w → Q (.panic c) a w) (hy : YieldsIf P ops (fun _ => True) oi v a) (hS : listed.getD s true = false → S w)
 (h : wpAnyL P md ops Q S s fuel (listed.setIfInBounds i true) (a.put oi.dst v) w) : wpAnyL P md ops Q S s (fuel + 1) listed a w := by
 simp only [Bool.and_eq_true, bne_iff_ne] at hb
 obtain ⟨⟨⟨h1, h2⟩, h3⟩, hsi⟩ := hb
 have hsel := Region.noSelect_spec h1
 suffices H : ∀ (fuel : Nat) (listed : Array Bool) (a : Act) (w : World),
  (∀ j oj, ops[j]? = some oj → j ≠ i → listed.getD j true = false → (∀ e ∈ oj.after, Region.binds md e = true → e.on ≠ i) → oi.apart ops oj = true) →
  i ∈ Region.ready md ops listed → YieldsIf P ops (fun _ => True) oi v a → (listed.getD s true = false → S w) →
  wpAnyL P md ops Q S s fuel (listed.setIfInBounds i true) (a.put oi.dst v) w → wpAnyL P md ops Q S s (fuel + 1) listed a w from
  H fuel listed a w (Region.free_spec hi h2) (by simpa using h3) hy hS h
 clear hS h hy h2 h3 h1
 intro fuel
 induction fuel with
 | zero =>
  intro listed a w _ hr hy hS H
  refine ⟨fun h => (by rw [h] at hr; cases hr), fun j hj => ?_⟩
  by_cases hji : j = i
  · subst hji; exact hy.wpOp hi trivial ⟨fun h => hS (by rw [getD_set_ne true (Ne.symm hsi)] at h; exact h), H⟩
  · have := ready_mono hj hji
    rw [H.1] at this
    cases this
 | succ fuel ih =>
  intro listed a w hfree hr hy hS H
  refine ⟨fun h => (by rw [h] at hr; cases hr), fun j hj => ?_⟩
  by_cases hji : j = i
  · subst hji; exact hy.wpOp hi trivial ⟨fun h => hS (by rw [getD_set_ne true (Ne.symm hsi)] at h; exact h), H⟩
  · have h1 := H.2 j (ready_mono hj hji)
    obtain ⟨hjun, oj, hoj, hall⟩ := mem_ready.1 hj
    have hnot : ∀ e ∈ oj.after, Region.binds md e = true → e.on ≠ i := fun e he hb heq => by
     have h1 := hall e he hb
     have h0 := (mem_ready.1 hr).1
     rw [heq] at h1
     rcases Nat.lt_or_ge i listed.size with h' | h'
     · simp [h'] at h0 h1; rw [h0] at h1; cases h1
     · simp [Array.getElem?_eq_none h'] at h1
    have h2 := wpOp_putIf hoj (hfree j oj hoj hji hjun hnot) (fun cs b => hsel i oi cs b hi) (fun cs b => hsel j oj cs b hoj) hQ hy h1
    have hfree' : ∀ k ok, ops[k]? = some ok → k ≠ i → (listed.setIfInBounds j true).getD k true = false →
     (∀ e ∈ ok.after, Region.binds md e = true → e.on ≠ i) → oi.apart ops ok = true := fun k ok hk hki hun hno => by
     refine hfree k ok hk hki ?_ hno
     by_cases hjk : j = k
     · subst hjk; exact hjun
     · rw [getD_set_ne true hjk] at hun; exact hun
    refine wpOp_mono (fun a' w' h3 => ?_) h2
    have hS' : (listed.setIfInBounds j true).getD s true = false → S w' := fun h => h3.2.1 (by
     rw [Array.setIfInBounds_comm _ _ (Ne.symm hji), getD_set_ne true (Ne.symm hsi)]; exact h)
    refine ⟨hS', ih (listed.setIfInBounds j true) a' w' hfree' (ready_mono hr (Ne.symm hji)) h3.1 hS' ?_⟩
    rw [Array.setIfInBounds_comm _ _ hji]
    exact h3.2.2
theorem rdL (i : Nat) {s : Nat} {o : Oper} {fuel : Nat} {listed : Array Bool} {a : Act} {w : World} (hb : (Region.ready md ops listed == [i] && !(listed.setIfInBounds i true).getD s true) = true) (ho : ops[i]? = some o)
 (h : ∀ K' : Act → World → Prop, Shut (∀ a w, S w → (S w → wpAnyL P md ops Q S s fuel (listed.setIfInBounds i true) a w) → K' a w) → if Region.wanted o (yielded ops a.tmps) = true then Oper.wp P o a w K' Q else K' (a.put o.dst undef) w) :
 wpAnyL P md ops Q S s (fuel + 1) listed a w := by
 simp only [Bool.and_eq_true, Bool.not_eq_true', beq_iff_eq] at hb
 obtain ⟨hr, hq⟩ := hb
 refine ⟨fun h0 => (by rw [hr] at h0; cases h0), fun j hj => ?_⟩
 rw [hr] at hj
 simp only [List.mem_cons, List.not_mem_nil, or_false] at hj
 subst hj
 exact wpOp_step ho (fun K' hK => h K' (fun a w hS hW => hK a w ⟨fun _ => hS, hW hS⟩))
theorem rdS {s : Nat} {o : Oper} {fuel : Nat} {listed : Array Bool} {a : Act} {w : World} (hb : (Region.ready md ops listed == [s] && (listed.setIfInBounds s true).getD s true) = true) (ho : ops[s]? = some o)
 (h : ∀ K' : Act → World → Prop, Shut (∀ a w, wpAnyL P md ops Q S s fuel (listed.setIfInBounds s true) a w → K' a w) → if Region.wanted o (yielded ops a.tmps) = true then Oper.wp P o a w K' Q else K' (a.put o.dst undef) w) :
 wpAnyL P md ops Q S s (fuel + 1) listed a w := by
 simp only [Bool.and_eq_true, beq_iff_eq] at hb
 obtain ⟨hr, hq⟩ := hb
 refine ⟨fun h0 => (by rw [hr] at h0; cases h0), fun j hj => ?_⟩
 rw [hr] at hj
 simp only [List.mem_cons, List.not_mem_nil, or_false] at hj
 subst hj
 exact wpOp_step ho (fun K' hK => h K' (fun a w hW => hK a w ⟨fun h0 => (by rw [hq] at h0; cases h0), hW⟩))
theorem doneL {s : Nat} {listed : Array Bool} {a : Act} {w : World} (hr : Region.ready md ops listed = []) (h : Q .normal a w) :
 ∀ fuel, wpAnyL P md ops Q S s fuel listed a w
 | 0 => ⟨hr, h⟩
 | _ + 1 => ⟨fun _ => h, by rw [hr]; simp⟩
theorem wp_region_L (s : Nat) {id : Nat} {a : Act} {w : World} (hm : P.follows .mixedOrders = true)
 (h : wpAnyL P .any ops Q S s ops.size (Array.replicate ops.size false) a w.drew) : (Code.region id ops true).wp P Q a w :=
 wp_region_any hm (wpAny_of_L _ _ _ _ h)
end
end Go.Proofs.YtmdgifmigikffaaGreat
namespace Go.Proofs.YtmdgifmigikffaaGreat
open Go.RowKit
set_option maxHeartbeats 1000000 in
set_option maxRecDepth 100000 in
theorem take_any (x : Value) (l : List UInt8) (w : World) (hr : Rd w x l) :
 Calls Tryz.prog 137 #[x] w fun e w' => e = .returned (.tuple #[.int .u64 ((rdN 0 0 l).1 : Nat), .int .i64 ((rdN 0 0 l).2.1 : Nat), .int .i64 (rdN 0 0 l).2.2]) ∧ w = w' := by
 by_cases hl : l = []
 · subst hl
   obtain ⟨ao, c, rfl, -⟩ := hr
   have e : rdN 0 0 [] = (0, 0, 8) := rfl
   rw [e]
   go_enter Tryz.func137, Tryz.ntmps137
   go_wp2
   refine wp_loop_rounds 1 ?_
   rw [rounds_succ]
   go_wp2
   go_ret3
   exact ⟨rfl, rfl⟩
 · have hlen : 0 < l.length := List.length_pos_iff.2 hl
   obtain ⟨b, off, cp, rfl, h1, h2, hc⟩ := hr.at hlen
   unfold maxLen at h2
   go_enter Tryz.func137, Tryz.ntmps137
   go_wp2
   go_loop [5, 6] (fun v i => ∃ (k V : Nat), k ≤ l.length ∧ i = .int .i64 k ∧ v = .int .u64 V ∧ V < 128 ^ k ∧ k ≤ 9 ∧ rdN k V (l.drop k) = rdN 0 0 l) (fun _ i => 10 - (intOf i).toNat)
   case atStart => exact ⟨0, 0, Nat.zero_le _, rfl, rfl, by decide, by omega, rfl⟩
   case round =>
    obtain ⟨k, V, hk, rfl, rfl, hV, hk9, hrec⟩ := hrel
    by_cases hlt : k < l.length
    · have hck := hc k hlt
      have hd : l.drop k = l[k] :: l.drop (k + 1) := List.drop_eq_getElem_cons hlt
      rw [hd] at hrec
      have hc256 : (l[k]).toNat < 256 := UInt8.toNat_lt _
      generalize l[k] = c at *
      have Hrec := hid hrec
      have HV := hid hV
      have Hd := hid hd
      clear hrec hd hc hV
      have HO : ¬ (k = 9 ∧ 1 < c.toNat) → Hid (bits BinOp.or IntKind.u64 (V : Int) (IntKind.u64.wrap ((c.toNat : Int) % 128 * 2 ^ (7 * k))) = ((V + c.toNat % 128 * 128 ^ k : Nat) : Int)) := fun h => or_step2 HV.out hk9 hc256 h
      have HS := hid (step_lt (c := c.toNat) HV.out)
      have t10 : (k : Int) < 10 := by omega
      have t11 : ¬ (l.length : Int) ≤ (k : Int) := by omega
      by_cases t1 : k = 9 ∧ 1 < c.toNat
      · have HF : Hid (rdN 0 0 l = (0, 0, 9)) := by rw [← Hrec.out]; exact rdN_form t1
        obtain ⟨rfl, t1b⟩ := t1
        clear HO HS Hrec Hd
        go_wp2
        go_ret3
        rw [HF.out]
        exact ⟨rfl, rfl⟩
      · have HO' := HO t1
        clear HO
        by_cases t2 : 128 ≤ c.toNat
        · have HF : Hid (rdN (k + 1) (V + c.toNat % 128 * 128 ^ k) (l.drop (k + 1)) = rdN 0 0 l) := by rw [← Hrec.out]; exact (rdN_more t1 t2).symm
          have hk9' : k ≠ 9 := by omega
          clear Hrec Hd t1
          go_wp2
          go_round
          case rel => exact ⟨k + 1, _, by omega, by go_num, by rw [HO'.out], HS.out, by omega, HF.out⟩
          case measure => simp [intOf]; omega
        · by_cases t3 : c.toNat = 0 ∧ 0 < k
          · have HF : Hid (rdN 0 0 l = (0, 0, 9)) := by rw [← Hrec.out]; exact rdN_zero t1 t2 t3
            clear Hrec Hd HS
            obtain ⟨t3a, t3b⟩ := t3
            clear HO'
            go_wp2
            all_goals (go_ret3; rw [HF.out]; exact ⟨rfl, rfl⟩)
          · have HF : Hid (rdN 0 0 l = (V + c.toNat % 128 * 128 ^ k, k + 1, 0)) := by rw [← Hrec.out]; exact rdN_last t1 t2 t3
            clear Hrec Hd HS
            by_cases t4 : k = 9
            · subst t4
              have ev := HO'.out
              rw [show (2 : Int) ^ (7 * 9) = 9223372036854775808 from by decide, wrap_u64, show (c.toNat : Int) % 128 * 9223372036854775808 % 18446744073709551616 = (c.toNat : Int) % 128 * 9223372036854775808 from by omega] at ev
              have HE := hid ev
              have d1 : decide ((1 : Int) < (c.toNat : Int)) = false := by simp; omega
              have t5 : ¬ (c.toNat : Int) = 0 := by omega
              clear ev HO'
              go_wp2
              go_ret3
              rw [HF.out, HE.out]
              exact ⟨rfl, rfl⟩
            · by_cases t5 : c.toNat = 0
              · have t6 : ¬ (0 : Int) < (k : Int) := by omega
                have t4' : ¬ (k : Int) = 9 := by omega
                have t5' : (c.toNat : Int) = 0 := by omega
                have ev := HO'.out
                rw [t5', show IntKind.u64.wrap ((0 : Int) % 128 * 2 ^ (7 * k)) = 0 from by rw [wrap_u64]; simp] at ev
                have HE := hid ev
                clear ev HO'
                go_wp2
                go_ret3
                rw [HF.out, HE.out]
                exact ⟨rfl, rfl⟩
              · have HE := HO'
                have t4' : ¬ (k : Int) = 9 := by omega
                have t5' : ¬ (c.toNat : Int) = 0 := by omega
                clear HO'
                go_wp2
                go_ret3
                rw [HF.out, HE.out]
                exact ⟨rfl, rfl⟩
    · obtain rfl : k = l.length := by omega
      have HF : Hid (rdN 0 0 l = (0, 0, 8)) := by rw [← hrec, List.drop_length]; rfl
      have t10 : (l.length : Int) < 10 := by omega
      clear hrec hV
      go_wp2
      go_ret3
      rw [HF.out]
      exact ⟨rfl, rfl⟩
end Go.Proofs.YtmdgifmigikffaaGreat
namespace Go.Proofs.YtmdgifmigikffaaGreat
open Go.RowKit
theorem wp_app_fits {P : Program} {w : World} {ops : Array Oper} {rest : List Oper} {o : Oper} {a : Act} {Q : Exit → Act → World → Prop} (hgd : o.guard = none) (s x : Operand) (t : TypeId)
 (ho : o.op = .call { callee := .builtin .append, args := #[s, x], argTypes := #[t, t] })
 (base : Nat) (e : TypeId) (ht : P.underlying t = some (.slice e)) (hinfo : (P.info? e).map (fun i => (i.zero, i.size, i.bytes)) = some (some (.int .u8 0), 1, 1))
 (g k cap : Nat) (xs : List Value) (hs : a.eval s = .slice (some ⟨g, 0, none⟩) k cap) (hown : w.ownsRow base e 1 (.slice (some ⟨g, 0, none⟩) k cap) k xs)
 (y : Value) (l : List UInt8) (hx : a.eval x = y) (hr : Rd w y l) (hfit : k + l.length ≤ cap)
 (h : ∀ w', w'.ownsRow base e 1 (.slice (some ⟨g, 0, none⟩) (k + l.length) cap) (k + l.length) (xs ++ l.map bv) → w.grownBy w' (some g) → wpList P ops Q rest (a.put o.dst (.slice (some ⟨g, 0, none⟩) (k + l.length) cap)) w') : wpList P ops Q (o :: rest) a w := by
 obtain ⟨i0, hi, hz0, hz1, hz2⟩ := info_parts hinfo
 obtain ⟨ao, c, rfl, h1, h2, h3, h4⟩ := hr
 refine wpList_append_fits_any w hgd s x t ho base e i0 1 ht hi hz1 g k cap xs hs hown ao l.length c (l.map bv) hx (by simp) (fun hn => ?_) (fun ad had => h4 ad had) (bv_one l) hfit h
 have := h3 hn
 omega
theorem Rd.of_full {w : World} {base g n k : Nat} {e : TypeId} {xs : List Value} {l : List UInt8} (h : w.ownsRow base e 1 (.slice (some ⟨g, 0, none⟩) n n) n xs) (hk : l.length ≤ n) (ht : xs.take l.length = l.map bv) (hkk : k = l.length) : Rd w (.slice (some ⟨g, 0, none⟩) k n) l := by
 subst hkk
 have hxl := h.1
 rcases h.2 with ⟨h', _⟩ | ⟨g', cap', cur, h', hb, hg, hnc, hcm, hcs, htake⟩
 · simp at h'
 · simp only [Value.slice.injEq, Option.some.injEq, Addr.mk.injEq, and_true, true_and] at h'
   obtain ⟨rfl, rfl⟩ := h'
   refine ⟨_, _, rfl, hk, hcm, (fun h => by cases h), fun a ha j u hu => ?_⟩
   cases ha
   have hj : j < l.length := by
    have := (List.getElem?_eq_some_iff.1 hu).1
    simpa using this
   rw [WideShapes.add_plain, Nat.zero_add, h.cellAt j (by omega)]
   rw [← ht, List.getElem?_take_of_lt hj] at hu
   exact hu
theorem own_full {w : World} {base g n cap : Nat} {e : TypeId} {xs : List Value} (h : w.ownsRow base e 1 (.slice (some ⟨g, 0, none⟩) n cap) n xs) :
 ∃ ys, w.ownsRow base e 1 (.slice (some ⟨g, 0, none⟩) cap cap) cap ys ∧ ys.take n = xs := by
 rcases h.2 with ⟨h', _⟩ | ⟨g', cap', cur, h', hb, hg, hnc, hcm, hcs, htake⟩
 · simp at h'
 · simp only [Value.slice.injEq, Option.some.injEq, Addr.mk.injEq, and_true, true_and] at h'
   obtain ⟨rfl, rfl⟩ := h'
   refine ⟨cur.toList, ⟨by simpa using hcs, .inr ⟨g, cap, cur, rfl, hb, hg, Nat.le_refl _, hcm, hcs, ?_⟩⟩, by simpa using htake⟩
   exact List.take_of_length_le (by rw [Array.length_toList, hcs]; exact Nat.le_refl _)
def OwnIs (w : World) (l : List UInt8) (f : UInt8) (en : Ending) (w' : World) : Prop :=
 ∃ g, en = .returned (.slice (some ⟨g, 0, none⟩) l.length (l.length + 3)) ∧ w.heap.size ≤ g ∧
  w'.ownsRow w.heap.size 5 1 (.slice (some ⟨g, 0, none⟩) (l.length + 3) (l.length + 3)) (l.length + 3) (l.map bv ++ List.replicate 3 (bv f)) ∧ Below w.heap.size w w'
theorem own_round {xs ys : List Value} {k n : Nat} {v : Value} (hx : xs.take (n + k) = ys ++ List.replicate k v) (_hy : ys.length = n) (hlt : n + k < xs.length) : (xs.set (n + k) v).take (n + (k + 1)) = ys ++ List.replicate (k + 1) v := by
 have e1 : (xs.set (n + k) v).take (n + k + 1) = (xs.set (n + k) v).take (n + k) ++ [v] := by
  rw [List.take_succ_eq_append_getElem (by simpa using hlt)]
  simp
 rw [← Nat.add_assoc, e1, List.take_set_of_le (Nat.le_refl _), hx, List.replicate_succ', List.append_assoc]
set_option maxHeartbeats 1000000 in
set_option maxRecDepth 100000 in
theorem own_any (x : Value) (l : List UInt8) (f : UInt8) (w : World) (hx : Rd w x l) (hl : l.length ≤ 140737488355328) :
 Calls Tryz.prog 5 #[x, .int .u8 (f.toNat : Int)] w (OwnIs w l f) := by
 have hlen := hx.len (P := Tryz.prog) 22 5
 obtain ⟨i0, hi, hz0, hz1, hz2⟩ := info_parts (show (Tryz.prog.info? 5).map (fun i => (i.zero, i.size, i.bytes)) = some (some (.int .u8 0), 1, 1) by kernel_rfl)
 go_enter Tryz.func5, Tryz.ntmps5
 go_wp2_with (first
  | (at_make; refine wpList_make_own _ rfl _ _ 22 rfl w.heap.size 5 i0 (.int .u8 0) 1 Tryz.underlying22 hi hz0 hz1 _ _ _ (l.length + 3) rfl rfl ?m1 ?m2 ?m3 ?m4 ?_))
 case m1 => simp
 case m2 => rw [hz2]; omega
 case m3 => unfold maxLen; omega
 case m4 => exact Nat.le_refl _
 intro w1 o1 g1
 have B1 : Below w.heap.size w w1 := (Below.refl _ _).grown g1 (Nat.le_refl _) (fun k hk => by cases hk)
 have hx1 := hx.old B1
 go_wp2_with (first
  | (at_builtin; refine wp_app_fits rfl _ _ 22 rfl w.heap.size 5 Tryz.underlying22 (by kernel_rfl) w.heap.size 0 (l.length + 3) [] rfl o1 _ l rfl hx1 ?c1 ?_))
 case c1 => omega
 intro w2 o2 g2
 have B2 := B1.grown g2 B1.size (fun k hk => by simp at hk; omega)
 obtain ⟨ys, hfull, htk⟩ := own_full o2
 have h0 : Hid (w2.ownsRow w.heap.size 5 1 (.slice (some ⟨w.heap.size, 0, none⟩) (l.length + 3) (l.length + 3)) (l.length + 3) ys ∧ ys.take (l.length + 0) = l.map bv ++ List.replicate 0 (bv f)) := by
  refine ⟨hfull, ?_⟩
  simpa using htk
 clear o1 g1 o2 g2 hx1 hfull htk B1 hz0 hz1 hz2 hi
 go_wp2_with fail
 go_loopw [7] (fun i wr => ∃ (k : Nat) (ys : List Value), k ≤ 3 ∧ i = .int .i64 ((l.length + k : Nat) : Int) ∧ wr.ownsRow w.heap.size 5 1 (.slice (some ⟨w.heap.size, 0, none⟩) (l.length + 3) (l.length + 3)) (l.length + 3) ys ∧ ys.take (l.length + k) = l.map bv ++ List.replicate k (bv f) ∧ Below w.heap.size w wr)
  (fun i _ => l.length + 3 - (intOf i).toNat)
 case atStart => exact ⟨0, ys, by omega, rfl, h0.out.1, h0.out.2, B2⟩
 case round =>
  obtain ⟨k, ys, hk, rfl, hown, htake, hb⟩ := hrel
  by_cases hlt : k < 3
  · have hyl : ys.length = l.length + 3 := by simpa using hown.1
    have hc1 : wr.cell? ⟨w.heap.size, l.length + k, none⟩ = some (ys[l.length + k]'(by omega)) := by
     rw [hown.cellAt (l.length + k) (by omega)]; exact List.getElem?_eq_getElem _
    have hf1 := hown.frozenAt (l.length + k)
    have hst := hid (hown.stored (l.length + k) (bv f))
    have hr := hid (own_round (n := l.length) htake (by simp) (by omega))
    have hb' := hid (hb.grown hst.out.2 hb.size (fun k hk => by simp at hk; omega))
    generalize ys[l.length + k]'(by omega) = old at *
    clear hown htake hyl hb B2 h0 hlen
    go_wp2_with fail
    go_roundw
    case rel => exact ⟨k + 1, _, by omega, by go_num, hst.out.1, hr.out, hb'.out⟩
    case measure => simp [intOf]; omega
  · obtain rfl : k = 3 := by omega
    have hyl : ys.length = l.length + 3 := by simpa using hown.1
    have hh := hid (And.intro hown (And.intro htake hb))
    clear hown htake hb
    go_wp2_with fail
    go_ret
    refine ⟨w.heap.size, rfl, Nat.le_refl _, ?_, hh.out.2.2⟩
    have := hh.out.2.1
    rw [List.take_of_length_le (by omega)] at this
    rw [← this]
    exact hh.out.1
def Draws (w : World) (v : Value) (en : Ending) (w' : World) : Prop := en = .returned v ∧ ∃ n, w' = w.drewN n
theorem Draws.below {w w' : World} {v : Value} {en : Ending} (h : Draws w v en w') : Below w.heap.size w w' := by
 obtain ⟨_, n, rfl⟩ := h
 exact ⟨rfl, rfl, rfl, Nat.le_refl _, fun _ _ => rfl⟩
set_option maxHeartbeats 1000000 in
set_option maxRecDepth 100000 in
theorem plain1_any (a b : Int) (w : World) :
 Calls Tryz.prog 129 #[.int .u8 a, .int .u8 b] w fun e w' => e = .returned (.bool (a == b)) ∧ w' = w := by
 go_enter Tryz.func129, Tryz.ntmps129
 go_wp2
 go_ret
 exact ⟨rfl, rfl⟩
set_option maxHeartbeats 1000000 in
set_option maxRecDepth 100000 in
theorem same_eq (x y : Value) (l : List UInt8) (w : World) (hx : Rd w x l) (hy : Rd w y l) :
 Calls Tryz.prog 128 #[x, y, .func (.func 129) #[] #[]] w (Draws w (.bool true)) := by
 by_cases hl : l = []
 · subst hl
   obtain ⟨a1, c1, rfl, -⟩ := hx
   obtain ⟨a2, c2, rfl, -⟩ := hy
   go_enter Tryz.func128, Tryz.ntmps128
   go_wp2_with fail
   refine wp_loop_rounds 1 ?_
   rw [rounds_succ]
   go_wp2_with fail
   go_ret
   exact ⟨rfl, 0, rfl⟩
 · have hlen : 0 < l.length := List.length_pos_iff.2 hl
   obtain ⟨b, off, cp, rfl, h1, h2, hc⟩ := hx.at hlen
   obtain ⟨b', off', cp', rfl, h1', h2', hc'⟩ := hy.at hlen
   unfold maxLen at h2 h2'
   clear hx hy
   go_enter Tryz.func128, Tryz.ntmps128
   go_wp2_with fail
   go_loopw [7] (fun i wr => ∃ k n : Nat, k ≤ l.length ∧ i = .int .i64 k ∧ wr = w.drewN n) (fun i _ => l.length - (intOf i).toNat)
   case atStart => exact ⟨0, 0, by omega, rfl, rfl⟩
   case round =>
    obtain ⟨k, n, hk, rfl, rfl⟩ := hrel
    by_cases hlt : k < l.length
    · have f1 := hc k hlt
      have f2 := hc' k hlt
      generalize (l[k]).toNat = q at *
      clear hc hc'
      have g1 : (w.drewN n).cell? ⟨b, off + k, none⟩ = some (.int .u8 (q : Int)) := f1
      have g2 : (w.drewN n).cell? ⟨b', off' + k, none⟩ = some (.int .u8 (q : Int)) := f2
      go_wp2_with fail
      have C := fun a => (plain1_any (q : Int) (q : Int) (w.drewN (n + a))).mono (R' := fun e w'' => e = Ending.returned (.bool true) ∧ ∃ m, w'' = w.drewN (n + m)) fun _ _ h => ⟨by rw [h.1]; simp, a, h.2⟩
      go_quiet ((go_at_call 129; exact C _))
      go_wp2_with fail
      go_roundw
      case rel => exact ⟨k + 1, _, by omega, by go_num, rfl⟩
      case measure => simp [intOf]; omega
    · clear hc hc'
      go_wp2_with fail
      go_ret
      exact ⟨rfl, n, rfl⟩
set_option maxHeartbeats 1000000 in
set_option maxRecDepth 100000 in
theorem plain_eq (x y : Value) (l : List UInt8) (w : World) (hx : Rd w x l) (hy : Rd w y l) :
 Calls Tryz.prog 68 #[x, y] w (Draws w (.bool true)) := by
 go_enter Tryz.func68, Tryz.ntmps68
 go_wp2_with fail
 refine (same_eq x y l w hx hy).mono ?_
 rintro en w1 ⟨rfl, n, rfl⟩
 go_wp2_with fail
 go_ret
 exact ⟨rfl, n, rfl⟩
set_option maxHeartbeats 1000000 in
set_option maxRecDepth 100000 in
theorem kept_any (x : Value) (l : List UInt8) (f : UInt8) (w : World) (g base : Nat) (hx : Rd w x l) (hl : l.length ≤ 140737488355328)
 (ho : w.ownsRow base 5 1 (.slice (some ⟨g, 0, none⟩) (l.length + 3) (l.length + 3)) (l.length + 3) (l.map bv ++ List.replicate 3 (bv f))) :
 Calls Tryz.prog 22 #[.slice (some ⟨g, 0, none⟩) l.length (l.length + 3), x, .int .u8 (f.toNat : Int)] w (Draws w (.bool true)) := by
 have hlen := hx.len (P := Tryz.prog) 22 5
 have hr : Rd w (.slice (some ⟨g, 0, none⟩) l.length (l.length + 3)) l := Rd.of_full ho (by omega) (by rw [List.take_left' (by simp)]) rfl
 go_enter Tryz.func22, Tryz.ntmps22
 go_wp2_with fail
 refine (plain_eq _ x l w hr hx).mono ?_
 rintro en w1 ⟨rfl, n, rfl⟩
 clear hr
 go_wp2_with fail
 go_loop [8] (fun i => ∃ k : Nat, k ≤ 3 ∧ i = .int .i64 ((l.length + k : Nat) : Int)) (fun i => l.length + 3 - (intOf i).toNat)
 case atStart => exact ⟨0, by omega, rfl⟩
 case round =>
  obtain ⟨k, hk, rfl⟩ := hrel
  by_cases hlt : k < 3
  · have hc1 : (w.drewN n).cell? ⟨g, l.length + k, none⟩ = some (.int .u8 (f.toNat : Int)) := by
     show w.cell? ⟨g, l.length + k, none⟩ = _
     rw [ho.cellAt (l.length + k) (by omega), List.getElem?_append_right (by simp)]
     simp only [List.length_map, Nat.add_sub_cancel_left]
     rw [List.getElem?_replicate, if_pos hlt]; rfl
    clear ho hlen
    go_wp2_with fail
    go_round
    case rel => exact ⟨k + 1, by omega, by go_num⟩
    case measure => simp [intOf]; omega
  · obtain rfl : k = 3 := by omega
    clear ho hlen
    go_wp2_with fail
    go_ret
    exact ⟨rfl, n, rfl⟩
end Go.Proofs.YtmdgifmigikffaaGreat
