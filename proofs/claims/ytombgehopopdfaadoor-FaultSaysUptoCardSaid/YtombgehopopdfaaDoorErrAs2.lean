/-
  errors.As AT A CHAIN OF FAULTS: the call itself.
-/
import Derived.Test.YtombgehopopdfaaDoorErrAs
set_option linter.unusedVariables false
namespace Go.Proofs.YtombgehopopdfaaDoor
open Go.RowKit Go.Extern.Stop Go.Stop Go.Extern

theorem eas_nil (x : Value) (w : World) : Calls Tryd.prog 16 #[.nilIface, x] w fun ev w' => ev = .returned (.bool false) ∧ w' = w := by
  go_enter Tryd.func16, Tryd.ntmps16
  go_wp2
  go_ret
  exact ⟨rfl, rfl⟩

set_option maxHeartbeats 4000000 in
set_option maxRecDepth 100000 in
theorem eas_code (w : World) (t : Nat) (old : Value) (n : Int) (l : List ByteArray) (e : Value) (hg : Ready w) (hc : Chain w l (.code n) e)
    (ht : w.heap[t]? = some (.cells #[old] 22 (0, 0))) :
    Calls Tryd.prog 16 #[e, .iface 39 (.pointer (some ⟨t, 0, none⟩))] w fun ev w' => ev = .returned (.bool true) ∧ w'.heap[t]? = some (.cells #[.int .i64 n] 22 (0, 0)) ∧ w.grownBy w' (some t) := by
  have h6 := @run_callFunc_extern Tryd.prog 29 _ (fun args => ReflectliteValue.unpack (args.getD 0 (.tuple #[]))) Tryd.func29 (by kernel_rfl) (by kernel_rfl) (by kernel_rfl) (by kernel_rfl)
  have h7 := @run_callFunc_extern Tryd.prog 30 _ (ReflectliteValue.methodAny (ReflectliteValue.valueError "reflectlite.Value.Type" 0) (fun t _ _ _ => ReflectliteType.toType t)) Tryd.func30 (by kernel_rfl) (by kernel_rfl) (by kernel_rfl) (by kernel_rfl)
  have h8 := @run_callFunc_extern Tryd.prog 31 _ (ReflectliteValue.method (ReflectliteValue.valueError "reflectlite.Value.IsNil" 0) ReflectliteValue.isNil) Tryd.func31 (by kernel_rfl) (by kernel_rfl) (by kernel_rfl) (by kernel_rfl)
  have h27 := @run_callFunc_extern Tryd.prog 54 _ (ReflectliteType.abiMethod fun t => do pure (.int .u8 (← Rtype.kind t))) Tryd.func54 (by kernel_rfl) (by kernel_rfl) (by kernel_rfl) (by kernel_rfl)
  have h37 := @run_callFunc_extern Tryd.prog 65 _ (ReflectliteType.method ReflectliteType.elem) Tryd.func65 (by kernel_rfl) (by kernel_rfl) (by kernel_rfl) (by kernel_rfl)
  have h38 := @run_callFunc_extern Tryd.prog 66 _ (ReflectliteType.relation "Implements" ReflectliteType.implements_) Tryd.func66 (by kernel_rfl) (by kernel_rfl) (by kernel_rfl) (by kernel_rfl)
  have f6 := valueOfC
  have f7 := typeC
  have mK := methodKind
  have mE := methodElem
  have mI := methodImplements
  have k1 := kindPC
  have k2 := kindC
  have e1 := elemC
  have i1 := implementsC
  have hlt := hg.lt
  have hK : Keeps w ((w.alloc (.cells #[.pointer (some ⟨t, 0, none⟩)] 39)).alloc (.cells #[.pointer (some ⟨1, 39, none⟩), .pointer (some ⟨w.heap.size, 0, none⟩), .int .u64 150] 63)) :=
    Keeps.below (((Below.refl _ _).alloc (Nat.le_refl _) _).alloc (by simp) _) hlt
  have hg2 := hg.kept hK
  have HC := hid (hc.kept hK)
  have HT := hid (alloc_old (o := .cells #[.pointer (some ⟨1, 39, none⟩), .pointer (some ⟨w.heap.size, 0, none⟩), .int .u64 150] 63) (alloc_old (o := .cells #[.pointer (some ⟨t, 0, none⟩)] 39) ht))
  have hv := alloc_old (o := .cells #[.pointer (some ⟨1, 39, none⟩), .pointer (some ⟨w.heap.size, 0, none⟩), .int .u64 150] 63) (alloc_at w (.cells #[.pointer (some ⟨t, 0, none⟩)] 39))
  have n8 := isNilC ⟨w.heap.size, 0, none⟩ ⟨t, 0, none⟩ _ (one_cell hv).1
  have HV := hid hv
  have HB := hid (((Below.refl w.heap.size w).alloc (Nat.le_refl _) (.cells #[.pointer (some ⟨t, 0, none⟩)] 39)).alloc (by simp) (.cells #[.pointer (some ⟨1, 39, none⟩), .pointer (some ⟨w.heap.size, 0, none⟩), .int .u64 150] 63))
  unfold Ready at hg2
  obtain ⟨T, x, rfl⟩ := hc.shape
  clear hg hc ht hK hv
  go_enter Tryd.func16, Tryd.ntmps16
  go_wp2_with (first | (go_at_call 32; refine (as_code _ t w.heap.size old n l _ HC.out HT.out HV.out).mono ?_; rintro ev w' ⟨rfl, h1, h2⟩))
  go_ret
  exact ⟨rfl, h1, grown_trans (grown_below HB.out _) h2⟩

set_option maxHeartbeats 4000000 in
set_option maxRecDepth 100000 in
theorem eas_text (w : World) (t : Nat) (old : Value) (s : ByteArray) (l : List ByteArray) (e : Value) (hg : Ready w) (hc : Chain w l (.text s) e)
    (ht : w.heap[t]? = some (.cells #[old] 22 (0, 0))) :
    Calls Tryd.prog 16 #[e, .iface 39 (.pointer (some ⟨t, 0, none⟩))] w fun ev w' => ev = .returned (.bool false) ∧ Below w.heap.size w w' := by
  have h6 := @run_callFunc_extern Tryd.prog 29 _ (fun args => ReflectliteValue.unpack (args.getD 0 (.tuple #[]))) Tryd.func29 (by kernel_rfl) (by kernel_rfl) (by kernel_rfl) (by kernel_rfl)
  have h7 := @run_callFunc_extern Tryd.prog 30 _ (ReflectliteValue.methodAny (ReflectliteValue.valueError "reflectlite.Value.Type" 0) (fun t _ _ _ => ReflectliteType.toType t)) Tryd.func30 (by kernel_rfl) (by kernel_rfl) (by kernel_rfl) (by kernel_rfl)
  have h8 := @run_callFunc_extern Tryd.prog 31 _ (ReflectliteValue.method (ReflectliteValue.valueError "reflectlite.Value.IsNil" 0) ReflectliteValue.isNil) Tryd.func31 (by kernel_rfl) (by kernel_rfl) (by kernel_rfl) (by kernel_rfl)
  have h27 := @run_callFunc_extern Tryd.prog 54 _ (ReflectliteType.abiMethod fun t => do pure (.int .u8 (← Rtype.kind t))) Tryd.func54 (by kernel_rfl) (by kernel_rfl) (by kernel_rfl) (by kernel_rfl)
  have h37 := @run_callFunc_extern Tryd.prog 65 _ (ReflectliteType.method ReflectliteType.elem) Tryd.func65 (by kernel_rfl) (by kernel_rfl) (by kernel_rfl) (by kernel_rfl)
  have h38 := @run_callFunc_extern Tryd.prog 66 _ (ReflectliteType.relation "Implements" ReflectliteType.implements_) Tryd.func66 (by kernel_rfl) (by kernel_rfl) (by kernel_rfl) (by kernel_rfl)
  have f6 := valueOfC
  have f7 := typeC
  have mK := methodKind
  have mE := methodElem
  have mI := methodImplements
  have k1 := kindPC
  have k2 := kindC
  have e1 := elemC
  have i1 := implementsC
  have hlt := hg.lt
  have hK : Keeps w ((w.alloc (.cells #[.pointer (some ⟨t, 0, none⟩)] 39)).alloc (.cells #[.pointer (some ⟨1, 39, none⟩), .pointer (some ⟨w.heap.size, 0, none⟩), .int .u64 150] 63)) :=
    Keeps.below (((Below.refl _ _).alloc (Nat.le_refl _) _).alloc (by simp) _) hlt
  have hg2 := hg.kept hK
  have HC := hid (hc.kept hK)
  have HT := hid (alloc_old (o := .cells #[.pointer (some ⟨1, 39, none⟩), .pointer (some ⟨w.heap.size, 0, none⟩), .int .u64 150] 63) (alloc_old (o := .cells #[.pointer (some ⟨t, 0, none⟩)] 39) ht))
  have hv := alloc_old (o := .cells #[.pointer (some ⟨1, 39, none⟩), .pointer (some ⟨w.heap.size, 0, none⟩), .int .u64 150] 63) (alloc_at w (.cells #[.pointer (some ⟨t, 0, none⟩)] 39))
  have n8 := isNilC ⟨w.heap.size, 0, none⟩ ⟨t, 0, none⟩ _ (one_cell hv).1
  have HV := hid hv
  have HB := hid (((Below.refl w.heap.size w).alloc (Nat.le_refl _) (.cells #[.pointer (some ⟨t, 0, none⟩)] 39)).alloc (by simp) (.cells #[.pointer (some ⟨1, 39, none⟩), .pointer (some ⟨w.heap.size, 0, none⟩), .int .u64 150] 63))
  unfold Ready at hg2
  obtain ⟨T, x, rfl⟩ := hc.shape
  clear hg hc ht hK hv
  go_enter Tryd.func16, Tryd.ntmps16
  go_wp2_with (first | (go_at_call 32; refine (as_text _ t w.heap.size s l _ HC.out).mono ?_; rintro ev w' ⟨rfl, h2⟩))
  go_ret
  exact ⟨rfl, HB.out.trans (h2.mono HB.out.size)⟩

set_option maxHeartbeats 4000000 in
set_option maxRecDepth 100000 in
theorem eas_fault (w : World) (t : Nat) (old : Value) (b : Nat) (s : ByteArray) (c : Value) (hg : Ready w) (hc : w.heap[b]? = some (.cells #[.string s, c] 55 (0, 0)))
    (ht : w.heap[t]? = some (.cells #[old] 43 (0, 0))) :
    Calls Tryd.prog 16 #[.iface 43 (.pointer (some ⟨b, 0, none⟩)), .iface 44 (.pointer (some ⟨t, 0, none⟩))] w fun ev w' => ev = .returned (.bool true) ∧ w'.heap[t]? = some (.cells #[.pointer (some ⟨b, 0, none⟩)] 43 (0, 0)) ∧ w.grownBy w' (some t) := by
  have h6 := @run_callFunc_extern Tryd.prog 29 _ (fun args => ReflectliteValue.unpack (args.getD 0 (.tuple #[]))) Tryd.func29 (by kernel_rfl) (by kernel_rfl) (by kernel_rfl) (by kernel_rfl)
  have h7 := @run_callFunc_extern Tryd.prog 30 _ (ReflectliteValue.methodAny (ReflectliteValue.valueError "reflectlite.Value.Type" 0) (fun t _ _ _ => ReflectliteType.toType t)) Tryd.func30 (by kernel_rfl) (by kernel_rfl) (by kernel_rfl) (by kernel_rfl)
  have h8 := @run_callFunc_extern Tryd.prog 31 _ (ReflectliteValue.method (ReflectliteValue.valueError "reflectlite.Value.IsNil" 0) ReflectliteValue.isNil) Tryd.func31 (by kernel_rfl) (by kernel_rfl) (by kernel_rfl) (by kernel_rfl)
  have h27 := @run_callFunc_extern Tryd.prog 54 _ (ReflectliteType.abiMethod fun t => do pure (.int .u8 (← Rtype.kind t))) Tryd.func54 (by kernel_rfl) (by kernel_rfl) (by kernel_rfl) (by kernel_rfl)
  have h37 := @run_callFunc_extern Tryd.prog 65 _ (ReflectliteType.method ReflectliteType.elem) Tryd.func65 (by kernel_rfl) (by kernel_rfl) (by kernel_rfl) (by kernel_rfl)
  have h38 := @run_callFunc_extern Tryd.prog 66 _ (ReflectliteType.relation "Implements" ReflectliteType.implements_) Tryd.func66 (by kernel_rfl) (by kernel_rfl) (by kernel_rfl) (by kernel_rfl)
  have f6 := valueOfF
  have f7 := typeF
  have mK := methodKind
  have mE := methodElem
  have mI := methodImplements
  have k1 := kindPF
  have k2 := kindF
  have e1 := elemF
  have i1 := implementsF
  have hlt := hg.lt
  have hK : Keeps w ((w.alloc (.cells #[.pointer (some ⟨t, 0, none⟩)] 44)).alloc (.cells #[.pointer (some ⟨1, 44, none⟩), .pointer (some ⟨w.heap.size, 0, none⟩), .int .u64 150] 63)) :=
    Keeps.below (((Below.refl _ _).alloc (Nat.le_refl _) _).alloc (by simp) _) hlt
  have hg2 := hg.kept hK
  have HC := hid (hc)
  have HT := hid (alloc_old (o := .cells #[.pointer (some ⟨1, 44, none⟩), .pointer (some ⟨w.heap.size, 0, none⟩), .int .u64 150] 63) (alloc_old (o := .cells #[.pointer (some ⟨t, 0, none⟩)] 44) ht))
  have hv := alloc_old (o := .cells #[.pointer (some ⟨1, 44, none⟩), .pointer (some ⟨w.heap.size, 0, none⟩), .int .u64 150] 63) (alloc_at w (.cells #[.pointer (some ⟨t, 0, none⟩)] 44))
  have n8 := isNilF ⟨w.heap.size, 0, none⟩ ⟨t, 0, none⟩ _ (one_cell hv).1
  have HV := hid hv
  have HB := hid (((Below.refl w.heap.size w).alloc (Nat.le_refl _) (.cells #[.pointer (some ⟨t, 0, none⟩)] 44)).alloc (by simp) (.cells #[.pointer (some ⟨1, 44, none⟩), .pointer (some ⟨w.heap.size, 0, none⟩), .int .u64 150] 63))
  unfold Ready at hg2
  skip
  clear hg hc ht hK hv
  go_enter Tryd.func16, Tryd.ntmps16
  go_wp2_with (first | (go_at_call 32; refine (as_fault _ t w.heap.size old b HT.out HV.out).mono ?_; rintro ev w' ⟨rfl, h1, h2⟩))
  go_ret
  exact ⟨rfl, h1, grown_trans (grown_below HB.out _) h2⟩

set_option maxHeartbeats 4000000 in
set_option maxRecDepth 100000 in
theorem eas_none (w : World) (t : Nat) (old : Value) (d : End) (e : Value) (hg : Ready w) (hc : Ends w d e)
    (ht : w.heap[t]? = some (.cells #[old] 43 (0, 0))) :
    Calls Tryd.prog 16 #[e, .iface 44 (.pointer (some ⟨t, 0, none⟩))] w fun ev w' => ev = .returned (.bool false) ∧ Below w.heap.size w w' := by
  have h6 := @run_callFunc_extern Tryd.prog 29 _ (fun args => ReflectliteValue.unpack (args.getD 0 (.tuple #[]))) Tryd.func29 (by kernel_rfl) (by kernel_rfl) (by kernel_rfl) (by kernel_rfl)
  have h7 := @run_callFunc_extern Tryd.prog 30 _ (ReflectliteValue.methodAny (ReflectliteValue.valueError "reflectlite.Value.Type" 0) (fun t _ _ _ => ReflectliteType.toType t)) Tryd.func30 (by kernel_rfl) (by kernel_rfl) (by kernel_rfl) (by kernel_rfl)
  have h8 := @run_callFunc_extern Tryd.prog 31 _ (ReflectliteValue.method (ReflectliteValue.valueError "reflectlite.Value.IsNil" 0) ReflectliteValue.isNil) Tryd.func31 (by kernel_rfl) (by kernel_rfl) (by kernel_rfl) (by kernel_rfl)
  have h27 := @run_callFunc_extern Tryd.prog 54 _ (ReflectliteType.abiMethod fun t => do pure (.int .u8 (← Rtype.kind t))) Tryd.func54 (by kernel_rfl) (by kernel_rfl) (by kernel_rfl) (by kernel_rfl)
  have h37 := @run_callFunc_extern Tryd.prog 65 _ (ReflectliteType.method ReflectliteType.elem) Tryd.func65 (by kernel_rfl) (by kernel_rfl) (by kernel_rfl) (by kernel_rfl)
  have h38 := @run_callFunc_extern Tryd.prog 66 _ (ReflectliteType.relation "Implements" ReflectliteType.implements_) Tryd.func66 (by kernel_rfl) (by kernel_rfl) (by kernel_rfl) (by kernel_rfl)
  have f6 := valueOfF
  have f7 := typeF
  have mK := methodKind
  have mE := methodElem
  have mI := methodImplements
  have k1 := kindPF
  have k2 := kindF
  have e1 := elemF
  have i1 := implementsF
  have hlt := hg.lt
  have hK : Keeps w ((w.alloc (.cells #[.pointer (some ⟨t, 0, none⟩)] 44)).alloc (.cells #[.pointer (some ⟨1, 44, none⟩), .pointer (some ⟨w.heap.size, 0, none⟩), .int .u64 150] 63)) :=
    Keeps.below (((Below.refl _ _).alloc (Nat.le_refl _) _).alloc (by simp) _) hlt
  have hg2 := hg.kept hK
  have HC := hid (hc.kept hK)
  have HT := hid (alloc_old (o := .cells #[.pointer (some ⟨1, 44, none⟩), .pointer (some ⟨w.heap.size, 0, none⟩), .int .u64 150] 63) (alloc_old (o := .cells #[.pointer (some ⟨t, 0, none⟩)] 44) ht))
  have hv := alloc_old (o := .cells #[.pointer (some ⟨1, 44, none⟩), .pointer (some ⟨w.heap.size, 0, none⟩), .int .u64 150] 63) (alloc_at w (.cells #[.pointer (some ⟨t, 0, none⟩)] 44))
  have n8 := isNilF ⟨w.heap.size, 0, none⟩ ⟨t, 0, none⟩ _ (one_cell hv).1
  have HV := hid hv
  have HB := hid (((Below.refl w.heap.size w).alloc (Nat.le_refl _) (.cells #[.pointer (some ⟨t, 0, none⟩)] 44)).alloc (by simp) (.cells #[.pointer (some ⟨1, 44, none⟩), .pointer (some ⟨w.heap.size, 0, none⟩), .int .u64 150] 63))
  unfold Ready at hg2
  obtain ⟨T, x, rfl⟩ := Chain.shape (l := []) hc
  clear hg hc ht hK hv
  go_enter Tryd.func16, Tryd.ntmps16
  go_wp2_with (first | (go_at_call 32; refine (as_none _ t w.heap.size d _ HC.out).mono ?_; rintro ev w' ⟨rfl, h2⟩))
  go_ret
  exact ⟨rfl, HB.out.trans (h2.mono HB.out.size)⟩
end Go.Proofs.YtombgehopopdfaaDoor
