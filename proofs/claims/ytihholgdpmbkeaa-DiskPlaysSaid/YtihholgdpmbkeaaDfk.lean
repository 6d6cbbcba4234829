/-
  DISK: Fork.
-/
import Derived.Test.YtihholgdpmbkeaaDc
import Derived.Lib.AppendZeros
set_option linter.unusedVariables false
set_option maxRecDepth 100000
namespace Go.Proofs.Ytihholgdpmbkeaa
open Go.RowKit

def zs (m : Nat) : List (List UInt8) := List.replicate m (List.replicate 64 0)
theorem zero_flat (m : Nat) : Builtin.zeroCells (Array.replicate 64 (Value.int .u8 0)) m = ((zs m).flatten.map bv).toArray := by
  apply Array.toList_inj.1
  apply List.ext_getElem?
  intro j
  have hf : (zs m).flatten = List.replicate (m * 64) 0 := by unfold zs; rw [List.flatten_replicate_replicate]
  rw [hf, List.map_replicate]
  by_cases hj : j < m * 64
  · have h2 : j % 64 < 64 := Nat.mod_lt _ (by decide)
    simp [Builtin.zeroCells, hj, List.getElem?_replicate, h2, bv]
  · simp [Builtin.zeroCells, hj, List.getElem?_replicate]

theorem zs_all (m : Nat) : ∀ s ∈ zs m, s.length = 64 := fun s hs => by
  unfold zs at hs
  rw [(List.mem_replicate.1 hs).2, List.length_replicate]

theorem below_on2 {a b c : World} (h : Below a.heap.size a b) (k : Below b.heap.size b c) : Below a.heap.size a c := h.trans (k.mono h.size)
/-- What a copy of a disk's sectors is. -/
def CloneS (n : Nat) (S : List (List UInt8)) (w : World) (e : Ending) (w' : World) : Prop :=
  ∃ sb2 m, e = .returned (.slice (some ⟨sb2, 0, none⟩) n (n + m)) ∧ n + m ≤ maxLen ∧ w.heap.size ≤ sb2 ∧ w'.heap[sb2]? = some (.cells ((S.take n ++ zs m).flatten.map bv).toArray 65 (0, 0)) ∧ Below w.heap.size w w'

set_option maxHeartbeats 2000000 in
theorem cloneS_any {w : World} {sb n : Nat} {S : List (List UInt8)} (hs : w.heap[sb]? = some (.cells (S.flatten.map bv).toArray 65 (0, 0))) (hl : ∀ s ∈ S, s.length = 64) (hn : n ≤ S.length) (h1 : 1 ≤ n) (h2 : n ≤ 65536) (c : Nat) :
    Calls Try.prog 40 #[.slice (some ⟨sb, 0, none⟩) n c] w (CloneS n S w) := by
  have heq := fun W => Lib.run_eql_slice_nil (P := Try.prog) W 59 65 (some ⟨sb, 0, none⟩) n c 0 0 Try.underlying59
  have hb1 : Below w.heap.size w (w.alloc (.cells #[] 65)) := (Below.refl _ _).alloc (Nat.le_refl _) _
  have hs1 := (hb1.block _ (lt_of_block hs)).trans hs
  obtain ⟨i0, hi0, hi1⟩ := Option.map_eq_some_iff.1 info_sector
  simp only [Prod.mk.injEq] at hi1
  have hz : i0.zero = some (.agg (Array.replicate 64 (.int .u8 0))) := by have := zero_sector; rw [hi0] at this; exact this
  have hfl := flat_len hl
  have htl : (S.take n).flatten.length = n * 64 := by rw [flat_len (fun s h => hl s (List.mem_of_mem_take h)), List.length_take]; congr 1; omega
  obtain ⟨m, hm⟩ : ∃ m, m = grownCap (w.alloc (.cells #[] 65)) (0 + n) 0 65 - (0 + n) := ⟨_, rfl⟩
  have hge := grownCap_ge (w.alloc (.cells #[] 65)) (0 + n) 0 65
  have hle := grownCap_le_maxLen (w.alloc (.cells #[] 65)) (0 + n) 0 65 (by unfold maxLen; omega)
  have hrun := run_append_grow (P := Try.prog) (ty := 59) (w.alloc (.cells #[] 65)) 59 65 i0 _ Try.underlying59 hi0 hz ⟨w.heap.size, 0, none⟩ 0 0 [] (by simp) (fun j v h => by simp at h)
    ⟨sb, 0, none⟩ n c ((S.take n).flatten.map bv) (by rw [List.length_map, htl, hi1.1]) (fun j v hv => by
      rw [WideShapes.add_plain, Nat.zero_add]
      unfold World.cell?
      rw [hs1]
      show ((S.flatten.map bv).toArray)[j]? = some v
      rw [List.getElem?_toArray]
      have hj : j < ((S.take n).flatten.map bv).length := (List.getElem?_eq_some_iff.1 hv).1
      rw [← hv]
      conv => lhs; rw [← List.take_append_drop n S, List.flatten_append, List.map_append]
      rw [List.getElem?_append_left hj]) (by omega) (by omega) (growslice_fits (by omega) (by rw [hi1.2]; omega))
  have hcap : grownCap (w.alloc (.cells #[] 65)) (0 + n) 0 65 = n + m := by omega
  rw [← hm, hcap] at hrun
  have hcells : (#[] : Array Value) ++ ((S.take n).flatten.map bv).toArray ++ Builtin.zeroCells (Value.agg (Array.replicate 64 (.int .u8 0))).cells m = ((S.take n ++ zs m).flatten.map bv).toArray := by
    show _ ++ Builtin.zeroCells (Array.replicate 64 (.int .u8 0)) m = _
    rw [zero_flat, List.flatten_append, List.map_append]
    simp
  rw [show ([] : List Value).toArray = #[] from rfl, hcells] at hrun
  have hrun2 : (Builtin.append_ #[59, 59] 59 #[.slice (some ⟨w.heap.size, 0, none⟩) 0 0, .slice (some ⟨sb, 0, none⟩) n c]).run Try.prog (w.alloc (.cells #[] 65)) =
      .ok (.slice (some ⟨w.heap.size + 1, 0, none⟩) n (n + m)) ((w.alloc (.cells #[] 65)).drew.alloc (.cells ((S.take n ++ zs m).flatten.map bv).toArray 65)) := by
    rw [hrun]
    simp
  have hfin := heap_alloc_new (w.alloc (.cells #[] 65)).drew (.cells ((S.take n ++ zs m).flatten.map bv).toArray 65)
  have hsz : (w.alloc (.cells #[] 65)).drew.heap.size = w.heap.size + 1 := by simp
  rw [hsz] at hfin
  have hb2 : Below w.heap.size w ((w.alloc (.cells #[] 65)).drew.alloc (.cells ((S.take n ++ zs m).flatten.map bv).toArray 65)) := hb1.drew.alloc (by simp) _
  generalize (w.alloc (.cells #[] 65)).drew.alloc (.cells ((S.take n ++ zs m).flatten.map bv).toArray 65) = w2 at *
  have HR := hid hrun2
  have HF := hid hfin
  have HB := hid hb2
  have HM : Hid (n + m ≤ maxLen) := by show _ ≤ _; omega
  clear hrun2 hfin hb2 hrun hcells hcap hm hge hle htl hfl hz hi1 hi0 hs1 hb1 hs hl
  go_enter Try.func40, Try.ntmps40
  go_wp2_with (first
    | (at_builtin; refine Lib.wpList_append_run _ rfl _ _ 59 59 rfl _ _ rfl rfl _ _ HR.out ?_))
  go_ret
  exact ⟨w.heap.size + 1, m, rfl, HM.out, by omega, HF.out, HB.out⟩

set_option maxHeartbeats 2000000 in
theorem cloneW_any (x : Value) (L : List (List Value)) (w : World) (h : Rws 129 w x L) (hn : L.length ≤ 1000000) :
    Calls Try.prog 41 #[x] w (fun e w' => ∃ y, e = .returned y ∧ w'.ownsRow w.heap.size 73 129 y L.length L.flatten ∧ Below w.heap.size w w') := by
  have hx := h
  obtain ⟨ao, c, rfl, h1, h2, h3, -, -⟩ := hx
  have heq := fun W => Lib.run_eql_slice_nil (P := Try.prog) W 60 73 ao L.length c 0 0 Try.underlying60
  cases ao with
  | none =>
    have hc := h3 rfl
    obtain rfl : L = [] := List.eq_nil_of_length_eq_zero (by omega)
    subst hc
    simp only [List.length_nil] at heq ⊢
    clear h
    go_enter Try.func41, Try.ntmps41
    go_wp2_with fail
    go_ret
    exact ⟨_, rfl, World.ownsRow_nil _ _ _ _, Below.refl _ _⟩
  | some a =>
    have HR := hid (h.old ((Below.refl w.heap.size w).alloc (Nat.le_refl _) (.cells #[] 73)))
    have hown : (w.alloc (.cells #[] 73)).ownsRow w.heap.size 73 129 (.slice (some ⟨w.heap.size, 0, none⟩) 0 0) 0 [] := World.ownsRow_made w #[] 0 (Nat.le_refl _) (by decide) rfl
    have HO := hid hown
    clear h hown
    go_enter Try.func41, Try.ntmps41
    go_wp2_with (first
      | (at_builtin; refine wp_rapp rfl _ _ 60 rfl w.heap.size 129 136 73 Try.underlying60 _ info_write (by simp [Value.cells]) (by decide) _ _ _ rfl HO.out _ L rfl HR.out ?c1 ?c2 ?c3 ?_))
    case c1 => omega
    case c2 => unfold maxLen; omega
    case c3 => simp
    intro v' w1 o1 g1
    have HO1 := hid o1
    have HB1 : Hid (Below w.heap.size w w1) := ((Below.refl _ _).alloc (Nat.le_refl _) _).grown g1 (by simp) (fun k hk => by simp [Value.ownBlock] at hk; omega)
    clear o1 g1
    go_wp2_with fail
    go_ret
    have := HO1.out
    try simp only [Nat.zero_add, List.nil_append] at this
    exact ⟨_, rfl, this, HB1.out⟩

section
variable {base : Nat} {w : World} {db sb n : Nat} {vw : Value} {S : List (List UInt8)} {Q : List Wr} {dn : Bool} {lf : Nat}
/-- A fork: all of it lies in new blocks. -/
def ForkA (n : Nat) (S : List (List UInt8)) (Q : List Wr) (dn : Bool) (lf : Nat) (w : World) (e : Ending) (w' : World) : Prop :=
  ∃ db2 sb2 vw2 m, e = .returned (.pointer (some ⟨db2, 0, none⟩)) ∧ Dk w.heap.size w' db2 sb2 n vw2 (S.take n ++ zs m) Q dn lf ∧ Below w.heap.size w w'

theorem Dk.facts {W : World} (h : Dk base w db sb n vw S Q dn lf) (hb : Below w.heap.size w W) : Hid (Below w.heap.size w W) ∧ W.cell? ⟨db, 0, none⟩ = some (.slice (some ⟨sb, 0, none⟩) n S.length) ∧ W.cell? ⟨db, 1, none⟩ = some vw ∧ W.cell? ⟨db, 2, none⟩ = some (.bool dn) ∧ W.cell? ⟨db, 3, none⟩ = some (.int .i64 (lf : Int)) := by
  obtain ⟨c0, c1, c2, c3, -, -, -, -⟩ := four_cells (h.old hb).hd
  exact ⟨hb, c0, c1, c2, c3⟩

set_option maxHeartbeats 4000000 in
theorem fork_any (h : Dk base w db sb n vw S Q dn lf) (h1 : 1 ≤ n) (hq : Q.length ≤ 1000000) :
    Calls Try.prog 23 #[.pointer (some ⟨db, 0, none⟩)] w (ForkA n S Q dn lf w) := by
  obtain ⟨vo, vc, rfl⟩ := wait_form h
  have H := hid h
  have HF := hid (fun W (hb : Below w.heap.size w W) => h.facts hb)
  have CS : Hid (∀ W, Below w.heap.size w W → Calls Try.prog 40 #[.slice (some ⟨sb, 0, none⟩) n S.length] W (CloneS n S W)) := fun W hb => cloneS_any (h.old hb).sh h.len h.few.1 h1 h.few.2.1 _
  have CW : Hid (∀ W, Below w.heap.size w W → Calls Try.prog 41 #[.slice vo Q.length vc] W (fun e w' => ∃ y, e = .returned y ∧ w'.ownsRow W.heap.size 73 129 y Q.length (Q.map rowW).flatten ∧ Below W.heap.size W w')) := fun W hb => by
    have := cloneW_any _ _ W (h.old hb).rows (by rw [List.length_map]; exact hq)
    rw [List.length_map] at this
    exact this
  obtain ⟨c0, c1, c2, c3, -, -, -, -⟩ := four_cells h.hd
  clear h hq
  go_enter Try.func23, Try.ntmps23
  go_upto_region 3 with fail
  go_region_held3 (fun W => Hid (Below w.heap.size w W) ∧ W.cell? ⟨db, 0, none⟩ = some (.slice (some ⟨sb, 0, none⟩) n S.length) ∧ W.cell? ⟨db, 1, none⟩ = some (.slice vo Q.length vc) ∧ W.cell? ⟨db, 2, none⟩ = some (.bool dn) ∧ W.cell? ⟨db, 3, none⟩ = some (.int .i64 (lf : Int)))
    (first | (go_split_ands; first | exact HF.out _ ((Below.refl _ _).drew) | exact HF.out _ (below_on2 (by assumption : Hid (Below _ _ _)).out (by assumption)) | exact HF.out _ ((by assumption : Hid (Below _ _ _)).out.alloc (by assumption : Hid (Below _ _ _)).out.size _)) | go_keep)
    (first
      | (go_at_call 40; go_split_ands; with_reducible refine (CS.out _ (by assumption : Hid (Below _ _ _)).out).mono ?_; intro e wk hgk; unfold CloneS at hgk; obtain ⟨sb2, m, rfl, hm, hsb2, hs2, bk⟩ := hgk; have OS := hid (And.intro hm (And.intro hsb2 hs2)); clear hm hsb2 hs2)
      | (go_at_call 41; go_split_ands; with_reducible refine (CW.out _ (by assumption : Hid (Below _ _ _)).out).mono ?_; intro e wv hgv; obtain ⟨y, rfl, oy, bv'⟩ := hgv; obtain ⟨yo, yc, rfl⟩ := own_form oy; have OV1 := hid oy; clear oy))
  all_goals (go_wp2_with fail)
  go_ret
  obtain ⟨hm, hsb2, hs2⟩ := OS.out
  have hb1 : Below w.heap.size w wk := below_on2 ((Below.refl _ _).drew) bk
  have hb2 : Below w.heap.size w wv := below_on2 hb1 bv'
  have hba : Below w.heap.size w (wv.alloc (.cells #[.slice (some ⟨sb2, 0, none⟩) n (n + m), .slice yo Q.length yc, .bool dn, .int .i64 (lf : Int)] 62)) := hb2.alloc hb2.size _
  have hal : Below wv.heap.size wv (wv.alloc (.cells #[.slice (some ⟨sb2, 0, none⟩) n (n + m), .slice yo Q.length yc, .bool dn, .int .i64 (lf : Int)] 62)) := (Below.refl _ _).alloc (Nat.le_refl _) _
  have HH : Dk base w db sb n (.slice vo Q.length vc) S Q dn lf := H.out
  have hdl := HH.few
  have htl : (S.take n).length = n := by rw [List.length_take]; omega
  have hl2 : (S.take n ++ zs m).length = n + m := by rw [List.length_append, htl]; unfold zs; rw [List.length_replicate]
  have hw' : w.drew.heap.size = w.heap.size := rfl
  refine ⟨wv.heap.size, sb2, .slice yo Q.length yc, m, rfl, ⟨⟨hb2.size, by omega⟩, ?_, ?_, ?_, ?_, HH.ok, by rw [hl2]; omega⟩, hba⟩
  · rw [hl2]; exact heap_alloc_new _ _
  · exact (hal.block _ (lt_of_block ((bv'.block _ (lt_of_block hs2)).trans hs2))).trans ((bv'.block _ (lt_of_block hs2)).trans hs2)
  · exact own_old (ownsRow_base OV1.out hb1.size) hal
  · intro s hs
    rcases List.mem_append.1 hs with hs | hs
    · exact HH.len s (List.mem_of_mem_take hs)
    · exact zs_all m s hs
end
end Go.Proofs.Ytihholgdpmbkeaa
