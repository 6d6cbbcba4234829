/-
  fault.Code; errors.Is; (*Fault).Is; fault.Is.
-/
import Derived.Test.YtombgehopopdfaaDoorErrAs2
set_option linter.unusedVariables false
namespace Go.Proofs.YtombgehopopdfaaDoor
open Go.RowKit Go.Extern.Stop Go.Stop Go.Extern

/-- The code that a chain with that end has. -/
def codeOf : End → Int
  | .code n => n
  | .text _ => 11

theorem code_nil (w : World) : Calls Tryd.prog 10 #[.nilIface] w fun ev w' => ev = .returned (.int .i64 0) ∧ w' = w := by
  go_enter Tryd.func10, Tryd.ntmps10
  go_wp2
  go_ret
  exact ⟨rfl, rfl⟩

set_option maxHeartbeats 1000000 in
theorem code_any (w : World) (l : List ByteArray) (d : End) (e : Value) (hg : Ready w) (hc : Chain w l d e) :
    Calls Tryd.prog 10 #[e] w fun ev w' => ev = .returned (.int .i64 (codeOf d)) ∧ Below w.heap.size w w' := by
  have hB := (Below.refl w.heap.size w).alloc (Nat.le_refl _) (.cells #[.int .i64 0] 22)
  have hK := Keeps.below hB hg.lt
  have HG := hid (hg.kept hK)
  have HC := hid (hc.kept hK)
  have HT := hid (alloc_at w (.cells #[.int .i64 0] 22))
  have HB := hid hB
  obtain ⟨T, x, rfl⟩ := hc.shape
  clear hc hg hK hB
  cases d with
  | code n =>
    go_enter Tryd.func10, Tryd.ntmps10
    go_wp2_with (first | (go_at_call 16; refine (eas_code _ w.heap.size _ n l _ HG.out HC.out HT.out).mono ?_))
    rintro ev w' ⟨rfl, h1, h2⟩
    have c1 := (one_cell h1).1
    have H1 := hid h1
    have H2 := hid h2
    clear h1 h2
    go_wp2
    go_ret
    exact ⟨rfl, HB.out.grown H2.out (by simp) (fun k hk => by cases hk; exact Nat.le_refl _)⟩
  | text s =>
    go_enter Tryd.func10, Tryd.ntmps10
    go_wp2_with (first | (go_at_call 16; refine (eas_text _ w.heap.size _ s l _ HG.out HC.out HT.out).mono ?_))
    rintro ev w' ⟨rfl, h2⟩
    have H2 := hid h2
    clear h2
    go_wp2
    go_ret
    exact ⟨rfl, HB.out.trans (H2.out.mono (by simp))⟩

/-- The entry of (rtype).Comparable. -/
def compEntry : Array Value → Sem Value := ReflectliteType.method fun t => do Rtype.noPackHeld "Comparable" t; pure (.bool (← typeInfo t).comparable)
theorem compC' (w : World) : (compEntry #[.agg #[.pointer (some ⟨1, 22, none⟩)]]).run Tryd.prog w = .ok (.bool true) w := by kernel_rfl
theorem compS' (w : World) : (compEntry #[.agg #[.pointer (some ⟨1, 70, none⟩)]]).run Tryd.prog w = .ok (.bool true) w := by kernel_rfl

/-! ### errors.Is -/
theorem run_equalIn_ints {P : Program} (w : World) (d : Nat) {ti tn : TypeId} {ms : Array (String × TypeId)} {i : TypeInfo} {k : IntKind} (a b : Int)
    (hi : P.underlying ti = some (.interface ms)) (hn : P.underlying tn = some (.int k)) (hinfo : P.info? tn = some i) (hcomp : i.comparable = true) :
    (Op.equalIn (d + 2) ti (.iface tn (.int k a)) (.iface tn (.int k b))).run P w = .ok (a == b) w := by
  simp [Op.equalIn, run_underlying hi, run_underlying hn, typeInfo, hinfo, hcomp]
/-- '==' between two errors of one integer type. -/
theorem run_eql_ints {P : Program} {ti tn : TypeId} {ms : Array (String × TypeId)} {i : TypeInfo} {k : IntKind} (a b : Int)
    (hi : P.underlying ti = some (.interface ms)) (hn : P.underlying tn = some (.int k)) (hinfo : P.info? tn = some i) (hcomp : i.comparable = true) (w : World) :
    (binOp .eql ti (.iface tn (.int k a)) (.iface tn (.int k b))).run P w = .ok (.bool (a == b)) w := by
  simp only [binOp]
  simp [Op.equal, Op.maxDepth, run_equalIn_ints w 9998 a b hi hn hinfo hcomp]
theorem compErrno : (Tryd.prog.info? 22).map (·.comparable) = some true := by kernel_rfl
theorem eqlErrno (a b : Int) (w : World) : (binOp .eql 25 (.iface 22 (.int .i64 a)) (.iface 22 (.int .i64 b))).run Tryd.prog w = .ok (.bool (a == b)) w := by
  obtain ⟨i, hi, hcmp⟩ := Option.map_eq_some_iff.1 compErrno
  exact run_eql_ints a b Tryd.underlying25 Tryd.underlying22 hi hcmp w

set_option maxHeartbeats 1000000 in
/-- Two codes. -/
theorem is_codes (a b : Int) (w : World) : Calls Tryd.prog 15 #[.iface 22 (.int .i64 a), .iface 22 (.int .i64 b)] w fun ev w' => ev = .returned (.bool (a == b)) ∧ w' = w := by
  have h10 := @run_callFunc_extern Tryd.prog 27 _ ReflectliteType.typeOf Tryd.func27 (by kernel_rfl) (by kernel_rfl) (by kernel_rfl) (by kernel_rfl)
  have h64 := @run_callFunc_extern Tryd.prog 64 _ compEntry Tryd.func64 (by kernel_rfl) (by kernel_rfl) (by kernel_rfl) (by kernel_rfl)
  have tC := typeOfC
  have mC := methodComparable
  have cC := compC'
  have nI := noIsC
  have nU := noUnC
  have nS := noUsC
  have eq := eqlErrno a b
  by_cases hab : a = b
  · have hd : (a == b) = true := by simp [hab]
    rw [hd] at eq
    rw [hd]
    clear hab
    go_enter Tryd.func15, Tryd.ntmps15
    go_wp2
    refine wp_loop_rounds 1 ?_
    rw [rounds_succ]
    go_wp2
    go_ret
    exact ⟨rfl, rfl⟩
  · have hd : (a == b) = false := by simp [hab]
    rw [hd] at eq
    rw [hd]
    clear hab
    go_enter Tryd.func15, Tryd.ntmps15
    go_wp2
    refine wp_loop_rounds 1 ?_
    rw [rounds_succ]
    go_wp2
    go_ret
    exact ⟨rfl, rfl⟩

set_option maxHeartbeats 1000000 in
/-- A code, and an error of errors.New's make. -/
theorem is_other (a : Int) (p : Value) (w : World) : Calls Tryd.prog 15 #[.iface 22 (.int .i64 a), .iface 70 p] w fun ev w' => ev = .returned (.bool false) ∧ w' = w := by
  have h10 := @run_callFunc_extern Tryd.prog 27 _ ReflectliteType.typeOf Tryd.func27 (by kernel_rfl) (by kernel_rfl) (by kernel_rfl) (by kernel_rfl)
  have h64 := @run_callFunc_extern Tryd.prog 64 _ compEntry Tryd.func64 (by kernel_rfl) (by kernel_rfl) (by kernel_rfl) (by kernel_rfl)
  have tS := typeOfS
  have mC := methodComparable
  have cS := compS'
  have nI := noIsC
  have nU := noUnC
  have nS := noUsC
  have eq := run_eql_iface_types (P := Tryd.prog) 22 70 (.int .i64 a) p Tryd.underlying25 (by decide)
  go_enter Tryd.func15, Tryd.ntmps15
  go_wp2
  refine wp_loop_rounds 1 ?_
  rw [rounds_succ]
  go_wp2
  go_ret
  exact ⟨rfl, rfl⟩

/-! ### (*Fault).Is -/
theorem mis_nil (x : Value) (w : World) : Calls Tryd.prog 19 #[.pointer none, x] w fun ev w' => ev = .returned (.bool false) ∧ w' = w := by
  go_enter Tryd.func19, Tryd.ntmps19
  go_wp2
  go_ret
  exact ⟨rfl, rfl⟩
set_option maxHeartbeats 1000000 in
theorem mis_code (w : World) (l : List ByteArray) (d : End) (b : Nat) (m : Int) (hg : Ready w) (hc : Chain w l d (.iface 43 (.pointer (some ⟨b, 0, none⟩)))) :
    Calls Tryd.prog 19 #[.pointer (some ⟨b, 0, none⟩), .iface 22 (.int .i64 m)] w fun ev w' => ev = .returned (.bool (codeOf d == m)) ∧ Below w.heap.size w w' := by
  have HG := hid hg
  have HC := hid hc
  clear hg hc
  go_enter Tryd.func19, Tryd.ntmps19
  go_wp2_with (first
    | (go_at_call 10; refine (code_any _ l d _ HG.out HC.out).mono ?_; rintro ev w1 ⟨rfl, h1⟩; have H1 := hid h1; clear h1)
    | (go_at_call 15; refine (is_codes _ _ _).mono ?_; rintro ev w2 ⟨rfl, rfl⟩))
  go_ret
  exact ⟨rfl, H1.out⟩
set_option maxHeartbeats 1000000 in
theorem mis_other (w : World) (l : List ByteArray) (d : End) (b : Nat) (p : Value) (hg : Ready w) (hc : Chain w l d (.iface 43 (.pointer (some ⟨b, 0, none⟩)))) :
    Calls Tryd.prog 19 #[.pointer (some ⟨b, 0, none⟩), .iface 70 p] w fun ev w' => ev = .returned (.bool false) ∧ Below w.heap.size w w' := by
  have HG := hid hg
  have HC := hid hc
  clear hg hc
  go_enter Tryd.func19, Tryd.ntmps19
  go_wp2_with (first
    | (go_at_call 10; refine (code_any _ l d _ HG.out HC.out).mono ?_; rintro ev w1 ⟨rfl, h1⟩; have H1 := hid h1; clear h1)
    | (go_at_call 15; refine (is_other _ _ _).mono ?_; rintro ev w2 ⟨rfl, rfl⟩))
  go_ret
  exact ⟨rfl, H1.out⟩

/-! ### fault.Is -/
theorem fis_nil (m : Int) (w : World) : Calls Tryd.prog 14 #[.nilIface, .int .i64 m] w fun ev w' => ev = .returned (.bool (0 == m)) ∧ w' = w := by
  go_enter Tryd.func14, Tryd.ntmps14
  go_wp2_with (first
    | (go_at_call 10; refine (code_nil _).mono ?_; rintro ev w1 ⟨rfl, rfl⟩)
    | (go_at_call 15; refine (is_codes _ _ _).mono ?_; rintro ev w2 ⟨rfl, rfl⟩))
  go_ret
  exact ⟨rfl, rfl⟩
set_option maxHeartbeats 1000000 in
theorem fis_any (w : World) (l : List ByteArray) (d : End) (e : Value) (m : Int) (hg : Ready w) (hc : Chain w l d e) :
    Calls Tryd.prog 14 #[e, .int .i64 m] w fun ev w' => ev = .returned (.bool (codeOf d == m)) ∧ Below w.heap.size w w' := by
  have HG := hid hg
  have HC := hid hc
  clear hg hc
  go_enter Tryd.func14, Tryd.ntmps14
  go_wp2_with (first
    | (go_at_call 10; refine (code_any _ l d _ HG.out HC.out).mono ?_; rintro ev w1 ⟨rfl, h1⟩; have H1 := hid h1; clear h1)
    | (go_at_call 15; refine (is_codes _ _ _).mono ?_; rintro ev w2 ⟨rfl, rfl⟩))
  go_ret
  exact ⟨rfl, H1.out⟩

/-! ### errors.Is of a chain and a code -/
set_option maxHeartbeats 4000000 in
set_option maxRecDepth 100000 in
theorem is_chain (w : World) (l : List ByteArray) (n m : Int) (e : Value) (hg : Ready w) (hc : Chain w l (.code n) e) :
    Calls Tryd.prog 15 #[e, .iface 22 (.int .i64 m)] w fun ev w' => ev = .returned (.bool (n == m)) ∧ Below w.heap.size w w' := by
  have h10 := @run_callFunc_extern Tryd.prog 27 _ ReflectliteType.typeOf Tryd.func27 (by kernel_rfl) (by kernel_rfl) (by kernel_rfl) (by kernel_rfl)
  have h64 := @run_callFunc_extern Tryd.prog 64 _ compEntry Tryd.func64 (by kernel_rfl) (by kernel_rfl) (by kernel_rfl) (by kernel_rfl)
  have tC := typeOfC
  have mC := methodComparable
  have cC := compC'
  have nI := noIsC
  have nU := noUnC
  have nS := noUsC
  have hI := hasIsF
  have hU := hasUnF
  have mI := methodIs
  have mU := methodUnwrap
  have eq := eqlErrno n m
  have eqt := fun b => run_eql_iface_types (P := Tryd.prog) 43 22 (.pointer (some ⟨b, 0, none⟩)) (.int .i64 m) Tryd.underlying25 (by decide)
  obtain ⟨T, x, rfl⟩ := hc.shape
  have HG := hid hg
  have HC := hid hc
  clear hg hc
  by_cases hnm : n = m
  · have hd : (n == m) = true := by simp [hnm]
    rw [hd] at eq
    rw [hd]
    clear hnm
    go_enter Tryd.func15, Tryd.ntmps15
    go_wp2
    go_loopw [0] (fun x wr => ∃ l', Chain wr l' (.code n) x ∧ Ready wr ∧ Below w.heap.size w wr) (fun x _ => rk x)
    case atStart => exact ⟨l, HC.out, HG.out, Below.refl _ _⟩
    case round =>
      obtain ⟨l', hx, hr, hb⟩ := hrel
      have HR := hid hr
      have HB := hid hb
      clear hr hb
      cases l' with
      | nil =>
        obtain rfl := hx
        go_wp2
        go_ret
        exact ⟨rfl, HB.out⟩
      | cons s r =>
        have HX := hid hx
        obtain ⟨b, c, rfl, hb, hrk, hr⟩ := hx
        clear hb hrk hr
        have eqb := eqt b
        clear eqt
        go_wp2_with (first | (go_at_call 19; refine (mis_code _ (s :: r) (.code n) b m HR.out HX.out).mono ?_; rintro ev w1 ⟨rfl, h1⟩; have H1 := hid h1; clear h1; simp only [codeOf, hd]))
        go_ret
        exact ⟨rfl, HB.out.trans (H1.out.mono HB.out.size)⟩
  · have hd : (n == m) = false := by simp [hnm]
    rw [hd] at eq
    rw [hd]
    clear hnm
    go_enter Tryd.func15, Tryd.ntmps15
    go_wp2
    go_loopw [0] (fun x wr => ∃ l', Chain wr l' (.code n) x ∧ Ready wr ∧ Below w.heap.size w wr) (fun x _ => rk x)
    case atStart => exact ⟨l, HC.out, HG.out, Below.refl _ _⟩
    case round =>
      obtain ⟨l', hx, hr, hb⟩ := hrel
      have HR := hid hr
      have HB := hid hb
      clear hr hb
      cases l' with
      | nil =>
        obtain rfl := hx
        go_wp2
        go_ret
        exact ⟨rfl, HB.out⟩
      | cons s r =>
        have HX := hid hx
        obtain ⟨b, c, rfl, hb, hrk, hr⟩ := hx
        obtain ⟨T, x, rfl⟩ := hr.shape
        have HK := hid hrk
        have HH := hid hb
        have HL := hid hr
        clear hb hrk hr
        have eqb := eqt b
        clear eqt
        go_wp2_with (first
          | (go_at_call 19; refine (mis_code _ (s :: r) (.code n) b m HR.out HX.out).mono ?_; rintro ev w1 ⟨rfl, h1⟩; have H1 := hid h1; clear h1; have HKp := hid (Keeps.below H1.out HR.out.lt); simp only [codeOf, hd])
          | (go_at_call 21; refine (munwrap_any b s _ _ (HKp.out.errs _ _ _ (.inl rfl) HH.out)).mono ?_; rintro ev w2 ⟨rfl, rfl⟩))
        go_roundw
        case rel => exact ⟨r, HL.out.kept HKp.out, HR.out.kept HKp.out, HB.out.trans (H1.out.mono HB.out.size)⟩
        case measure => have := HK.out; simp only [rk] at this ⊢; omega
end Go.Proofs.YtombgehopopdfaaDoor
