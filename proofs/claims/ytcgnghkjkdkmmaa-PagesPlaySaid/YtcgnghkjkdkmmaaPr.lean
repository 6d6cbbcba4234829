/-
  PAIRS IN MEMORY: 'Prs w x M' (the slice x of api.Pair holds the pairs M, each where it lies); the helpers Bytes, Pair, Within, Find, Cut over them.
-/
import Derived.Test.YtcgnghkjkdkmmaaRws
import Derived.BigQuiet
import Derived.Deep.QuietTactic
set_option linter.unusedVariables false
namespace Go.Proofs.Ytcgnghkjkdkmmaa
open Go.RowKit

/-- A pair, with the slices that hold its bytes. -/
structure Lp where
  ka : Option Addr
  kc : Nat
  va : Option Addr
  vc : Nat
  key : List UInt8
  val : List UInt8
  ver : Int

def rowP (m : Lp) : List Value := [(.slice m.ka m.key.length m.kc), (.slice m.va m.val.length m.vc), .int .i64 m.ver]
def pv (m : Lp) : Value := .agg #[(.slice m.ka m.key.length m.kc), (.slice m.va m.val.length m.vc), .int .i64 m.ver]
def RdP (w : World) (m : Lp) : Prop := Rd w (.slice m.ka m.key.length m.kc) m.key ∧ Rd w (.slice m.va m.val.length m.vc) m.val
def Prs (w : World) (x : Value) (M : List Lp) : Prop := Rws 3 w x (M.map rowP) ∧ ∀ m ∈ M, RdP w m

theorem RdP.old {w w' : World} {m : Lp} (h : RdP w m) (hb : Below w.heap.size w w') : RdP w' m := ⟨h.1.old hb, h.2.old hb⟩
theorem Prs.old {w w' : World} {x : Value} {M : List Lp} (h : Prs w x M) (hb : Below w.heap.size w w') : Prs w' x M := ⟨h.1.old hb, fun m hm => (h.2 m hm).old hb⟩

theorem one_rd {w : World} {x : Value} {l : List UInt8} (h : Rd w x l) : x.oneCell' = true := by
  obtain ⟨_, _, rfl, _⟩ := h; rfl

theorem RdP.wide {w : World} {m : Lp} (h : RdP w m) : (rowP m).length = 3 ∧ ∀ u ∈ rowP m, u.oneCell' = true := by
  refine ⟨rfl, fun u hu => ?_⟩
  simp only [rowP, List.mem_cons, List.not_mem_nil, or_false] at hu
  rcases hu with rfl | rfl | rfl
  · exact one_rd h.1
  · exact one_rd h.2
  · rfl

theorem wideP {w : World} {M : List Lp} (h : ∀ m ∈ M, RdP w m) : Wide 3 (M.map rowP) := fun r hr => by
  obtain ⟨m, hm, rfl⟩ := List.mem_map.1 hr
  exact (h m hm).wide

theorem Prs.nil (w : World) : Prs w (.slice none 0 0) [] := ⟨Rws.nil 3 w, fun m hm => by cases hm⟩

theorem Prs.form {w : World} {x : Value} {M : List Lp} (h : Prs w x M) : ∃ ao c, x = .slice ao M.length c ∧ M.length ≤ maxLen := by
  obtain ⟨ao, c, h1, h2, h3⟩ := h.1.form
  rw [List.length_map] at h1 h2
  exact ⟨ao, c, h1, Nat.le_trans h2 h3⟩

theorem Prs.len {P : Program} {w : World} {x : Value} {M : List Lp} (h : Prs w x M) (t e ty : TypeId) (ht : P.underlying t = some (.slice e)) :
    ∀ W, (Builtin.len_ #[t] ty #[x]).run P W = .ok (goInt M.length) W := by
  have := h.1.len (P := P) t e ty ht
  rw [List.length_map] at this
  exact this

theorem Prs.get {w : World} {ao : Option Addr} {n c : Nat} {M : List Lp} (h : Prs w (.slice ao n c) M) {k : Nat} {m : Lp} (hk : M[k]? = some m) :
    ∃ b off, ao = some ⟨b, off, none⟩ ∧ w.cell? ⟨b, off + k * 3, none⟩ = some (.slice m.ka m.key.length m.kc) ∧ w.cell? ⟨b, off + k * 3 + 1, none⟩ = some (.slice m.va m.val.length m.vc) ∧ w.cell? ⟨b, off + k * 3 + 2, none⟩ = some (.int .i64 m.ver) := by
  obtain ⟨b, off, ha, hc⟩ := h.1.get (by decide) (k := k) (r := rowP m) (by rw [List.getElem?_map, hk]; rfl)
  exact ⟨b, off, ha, hc 0 _ rfl, hc 1 _ rfl, hc 2 _ rfl⟩

theorem Prs.at {w : World} {x : Value} {M : List Lp} (h : Prs w x M) {k : Nat} {m : Lp} (hk : M[k]? = some m) : RdP w m := h.2 m (List.mem_of_getElem? hk)

/-- What the call itself made. -/
theorem Prs.own {w : World} {base : Nat} {e : TypeId} {x : Value} {M : List Lp} (h : w.ownsRow base e 3 x M.length (M.map rowP).flatten) (hr : ∀ m ∈ M, RdP w m) : Prs w x M :=
  ⟨Rws.own (by rw [List.length_map]; exact h) (wideP hr), hr⟩

/-- What a call that makes at most memory of its own gives. -/
def AnsP (w : World) (v : Value) (e : Ending) (w' : World) : Prop := e = .returned v ∧ Below w.heap.size w w'

theorem chain {w w1 w2 : World} (h : Below w.heap.size w w1) (g : Below w1.heap.size w1 w2) : Below w.heap.size w w2 := h.trans (g.mono h.size)

theorem cells3 {w : World} {b : Nat} {x y z : Value} {t : TypeId} (h : w.heap[b]? = some (.cells #[x, y, z] t (0, 0))) :
    w.cell? ⟨b, 0, none⟩ = some x ∧ w.cell? ⟨b, 1, none⟩ = some y ∧ w.cell? ⟨b, 2, none⟩ = some z := by
  simp [World.cell?, h]

set_option maxHeartbeats 1000000 in
set_option maxRecDepth 100000 in
theorem pbytes_any (x y : Value) (l m : List UInt8) (w : World) (hx : Rd w x l) (hy : Rd w y m) :
    Calls Try.prog 26 #[x, y] w fun e w' => e = .returned (.bool (l == m)) ∧ w' = w := by
  have c1 := hx.conv (P := Try.prog) 23 9 5 Try.underlying23 Try.underlying5 Try.underlying9
  have c2 := hy.conv (P := Try.prog) 23 9 5 Try.underlying23 Try.underlying5 Try.underlying9
  clear hx hy
  go_enter Try.func26, Try.ntmps26
  go_wp2_with fail
  go_ret
  exact ⟨rfl, rfl⟩

/-- Are two pairs alike? -/
def sameP (a b : Lp) : Bool := (a.key == b.key) && (a.val == b.val) && (a.ver == b.ver)

set_option maxHeartbeats 2000000 in
set_option maxRecDepth 100000 in
theorem pair_any (a b : Lp) (w : World) (ha : RdP w a) (hb : RdP w b) :
    Calls Try.prog 17 #[pv a, pv b] w (AnsP w (.bool (sameP a b))) := by
  have BB := ((Below.refl w.heap.size w).alloc (Nat.le_refl _) (.cells #[(.slice a.ka a.key.length a.kc), (.slice a.va a.val.length a.vc), .int .i64 a.ver] 31)).alloc (by simp) (.cells #[(.slice b.ka b.key.length b.kc), (.slice b.va b.val.length b.vc), .int .i64 b.ver] 31)
  have C1 := pbytes_any _ _ _ _ _ (ha.old BB).1 (hb.old BB).1
  have C2 := pbytes_any _ _ _ _ _ (ha.old BB).2 (hb.old BB).2
  have hs : sameP a b = ((a.key == b.key) && (a.val == b.val) && (a.ver == b.ver)) := rfl
  rw [hs]
  have HB := hid BB
  unfold pv
  obtain ⟨_, _, hk1, -⟩ := id ha.1
  clear ha hb hs BB hk1
  cases h1 : a.key == b.key with
  | false =>
    rw [h1] at C1
    go_enter Try.func17, Try.ntmps17
    go_wp2_with (first | (go_at_call 26; refine C1.mono ?_; rintro e w' ⟨rfl, rfl⟩))
    go_ret
    exact ⟨rfl, HB.out⟩
  | true =>
    rw [h1] at C1
    go_enter Try.func17, Try.ntmps17
    go_wp2_with (first | (go_at_call 26; refine C1.mono ?_))
    rintro e w' ⟨rfl, rfl⟩
    cases h2 : a.val == b.val with
    | false =>
      rw [h2] at C2
      go_wp2_with (first | (go_at_call 26; refine C2.mono ?_; rintro e w' ⟨rfl, rfl⟩))
      go_ret
      refine ⟨congrArg (fun b => Ending.returned (.bool b)) ?_, HB.out⟩
      rw [h2]; simp
    | true =>
      rw [h2] at C2
      go_wp2_with (first | (go_at_call 26; refine C2.mono ?_; rintro e w' ⟨rfl, rfl⟩))
      go_ret
      refine ⟨congrArg (fun b => Ending.returned (.bool b)) ?_, HB.out⟩
      rw [h2]; simp

/-- Is a key of a span? -/
def inSpan (f t key : List UInt8) : Bool := !Op.bytesLess key f && ((t.length == 0) || Op.bytesLess key t)

set_option maxHeartbeats 2000000 in
set_option maxRecDepth 100000 in
theorem within_any (fv tv kv : Value) (f t key : List UInt8) (w : World) (hf : Rd w fv f) (ht : Rd w tv t) (hk : Rd w kv key) :
    Calls Try.prog 33 #[.agg #[fv, tv], kv] w (AnsP w (.bool (inSpan f t key))) := by
  have BB := (Below.refl w.heap.size w).alloc (Nat.le_refl _) (.cells #[fv, tv] 25)
  have c1 := (hf.old BB).conv (P := Try.prog) 23 9 5 Try.underlying23 Try.underlying5 Try.underlying9
  have c2 := (ht.old BB).conv (P := Try.prog) 23 9 5 Try.underlying23 Try.underlying5 Try.underlying9
  have c3 := (hk.old BB).conv (P := Try.prog) 23 9 5 Try.underlying23 Try.underlying5 Try.underlying9
  have hl := ht.len (P := Try.prog) 23 5
  have HB := hid BB
  have o1 := one_rd hf
  have o2 := one_rd ht
  clear hf ht hk BB
  unfold inSpan
  cases h1 : Op.bytesLess key f with
  | true =>
    go_enter Try.func33, Try.ntmps33
    go_wp2_with fail
    go_ret
    exact ⟨rfl, HB.out⟩
  | false =>
    by_cases h2 : t.length = 0
    · have h2' : ((t.length : Int) == 0) = true := by simp [h2]
      go_enter Try.func33, Try.ntmps33
      go_wp2_with fail
      go_ret
      refine ⟨congrArg (fun b => Ending.returned (.bool b)) ?_, HB.out⟩
      simp [h2]
    · have h2' : ((t.length : Int) == 0) = false := beq_eq_false_iff_ne.2 (by omega)
      go_enter Try.func33, Try.ntmps33
      go_wp2_with fail
      go_ret
      refine ⟨congrArg (fun b => Ending.returned (.bool b)) ?_, HB.out⟩
      simp [h2]
end Go.Proofs.Ytcgnghkjkdkmmaa
