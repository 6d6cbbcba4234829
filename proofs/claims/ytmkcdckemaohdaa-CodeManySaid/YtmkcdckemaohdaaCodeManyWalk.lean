/-
  THE LAW CodeMany: the walk.
-/
import Derived.Test.YtmkcdckemaohdaaBack
import Derived.Test.YtmkcdckemaohdaaLaw
import Derived.BigQuiet
import Derived.Deep.RegionWith
namespace Go.Proofs.Ytmkcdckemaohdaa.codeMany
open Go.RowKit

/-- The bytes of many numbers. -/
def many (L : List Nat) : List UInt8 := L.flatMap numL

theorem many_len : ∀ (L : List Nat), (∀ n ∈ L, n < 2 ^ 64) → (many L).length ≤ 10 * L.length := by
  intro L
  induction L with
  | nil => intro _; simp [many]
  | cons a L ih =>
    intro h
    have h1 := numL_len10 (h a (by simp))
    have h2 := ih (fun n hn => h n (by simp [hn]))
    simp [many] at h2 ⊢
    omega

theorem many_snoc (L : List Nat) (k : Nat) (h : k < L.length) : many (L.take (k + 1)) = many (L.take k) ++ numL L[k] := by
  unfold many
  rw [List.take_succ_eq_append_getElem h, List.flatMap_append]
  simp

theorem many_drop (L : List Nat) (k : Nat) (h : k < L.length) : many (L.drop k) = numL L[k] ++ many (L.drop (k + 1)) := by
  unfold many
  rw [List.drop_eq_getElem_cons h, List.flatMap_cons]

/-- The numbers of an argument, at plain addresses. -/
theorem row64 {w : World} {a : Option Addr} {len cap : Nat} {zs : List Int} (h : IsRow .u64 w a len cap zs) :
    ∃ L : List Nat, L.length = len ∧ (∀ n ∈ L, n < 2 ^ 64) ∧ len ≤ cap ∧ (0 < len → ∃ b off, a = some ⟨b, off, none⟩ ∧ b < w.heap.size ∧ ∀ k (hk : k < L.length), w.cell? ⟨b, off + k, none⟩ = some (.int .u64 (L[k] : Int))) := by
  rcases h with ⟨rfl, rfl, rfl, rfl⟩ | ⟨x, rfl, hl, hm, hz, hc, hw⟩
  · exact ⟨[], rfl, by simp, Nat.le_refl _, fun h => by omega⟩
  · have hlen : ((zs.take len).map Int.toNat).length = len := by simp; omega
    refine ⟨(zs.take len).map Int.toNat, hlen, ?_, hl, fun hp => ?_⟩
    · intro n hn
      obtain ⟨z, hz1, rfl⟩ := List.mem_map.1 hn
      have := bounds_u64 (hw z (List.mem_of_mem_take hz1))
      omega
    · obtain ⟨b, off, rfl, hc'⟩ := ints_at hc (by omega)
      refine ⟨b, off, rfl, ?_, fun k hk => ?_⟩
      · exact World.block_lt_of_cell? w _ (hc' 0 (by omega))
      · have hkz : k < zs.length := by omega
        have hbd := bounds_u64 (hw zs[k] (List.getElem_mem hkz))
        rw [hc' k hkz, List.getD_eq_getElem?_getD, List.getElem?_eq_getElem hkz, Option.getD_some]
        simp only [List.getElem_map, List.getElem_take]
        rw [Int.toNat_of_nonneg hbd.1]

/-- What the walk is told of the numbers that count. -/
def Fact (w : World) (a0 : Option Addr) (M : List Nat) : Prop :=
  ∀ k, k < M.length → ∃ b off v, a0 = some ⟨b, off, none⟩ ∧ b < w.heap.size ∧ v < 2 ^ 64 ∧ (numL v).length ≤ 10 ∧ w.cell? ⟨b, off + k, none⟩ = some (.int .u64 ((v : Nat) : Int)) ∧ many (M.take (k + 1)) = many (M.take k) ++ numL v ∧ many (M.drop k) = numL v ++ many (M.drop (k + 1))

theorem facts {w : World} {a : Option Addr} {len cap : Nat} {zs : List Int} (h : IsRow .u64 w a len cap zs) :
    ∃ M : List Nat, M.length = min 100 len ∧ len ≤ cap ∧ (∀ k, (many (M.take k)).length ≤ 1000 ∧ (many (M.drop k)).length ≤ 1000) ∧ Fact w a M := by
  obtain ⟨L, rfl, hL, hlc, hc⟩ := row64 h
  have hM64 : ∀ n ∈ L.take 100, n < 2 ^ 64 := fun n hn => hL n (List.mem_of_mem_take hn)
  refine ⟨L.take 100, List.length_take, hlc, fun k => ?_, fun k hk => ?_⟩
  · have h1 := many_len ((L.take 100).take k) (fun n hn => hM64 n (List.mem_of_mem_take hn))
    have h2 : ((L.take 100).take k).length ≤ 100 := by rw [List.length_take, List.length_take]; omega
    have h3 := many_len ((L.take 100).drop k) (fun n hn => hM64 n (List.mem_of_mem_drop hn))
    have h4 : ((L.take 100).drop k).length ≤ 100 := by rw [List.length_drop, List.length_take]; omega
    omega
  · have hkL : k < L.length := by rw [List.length_take] at hk; omega
    obtain ⟨b, off, h1, h2, h3⟩ := hc (by omega)
    have he : (L.take 100)[k] = L[k] := by simp
    refine ⟨b, off, L[k], h1, h2, hL _ (List.getElem_mem hkL), numL_len10 (hL _ (List.getElem_mem hkL)), h3 k hkL, ?_, ?_⟩
    · rw [many_snoc _ _ hk, he]
    · rw [many_drop _ _ hk, he]

set_option maxHeartbeats 2000000 in
set_option maxRecDepth 100000 in
theorem walk (a0 : Option Addr) (len0 cap0 : Nat) (z0 : List Int) (a1 : Int) (w : World) (w0 : IsRow .u64 w a0 len0 cap0 z0) (b0 : cap0 * 8 ≤ 140737488351232) (w1 : (Lit.int .i64 a1).wf = true) :
    Calls Try.prog 8 #[.slice a0 len0 cap0, .int .i64 a1] w fun e w' => e = .returned (.bool true) ∧ Below w.heap.size w w' := by
  obtain ⟨M, hMl, hlc, hmax, HF⟩ := facts w0
  have HL := hid hMl
  have HX := hid hmax
  have hlen : len0 ≤ 140737488351232 := by omega
  clear w0 b0 hMl hmax hlc
  go_enter Try.func8, Try.ntmps8
  go_wp2_with fail
  go_loopw [5, 6] (fun x i wr => ∃ k : Nat, k ≤ M.length ∧ i = .int .i64 k ∧ wr.ownsRow w.heap.size 5 1 x (many (M.take k)).length ((many (M.take k)).map bv) ∧ Below w.heap.size w wr)
    (fun _ i _ => M.length - (intOf i).toNat)
  case atStart => exact ⟨0, Nat.zero_le _, rfl, World.ownsRow_nil _ _ _ _, Below.refl _ _⟩
  case round =>
    obtain ⟨k, hk, rfl, hown, hb⟩ := hrel
    by_cases hlt : k < M.length
    · obtain ⟨b, off, v, rfl, hbl, -, hln, hcl, hs, -⟩ := HF k hlt
      have hcx : wr.cell? ⟨b, off + k, none⟩ = some (.int .u64 (v : Int)) := (hb.cell (p := ⟨b, off + k, none⟩) hbl).trans hcl
      have t1 : k < len0 := by have := HL.out; omega
      have t2 : (k : Int) < 100 := by have := HL.out; omega
      have Hs := hid hs
      have hx1 := (HX.out k).1
      clear hcl hs
      go_wp2_with fail
      refine (num_any v wr hln).mono ?_
      rintro e x1 h1
      obtain ⟨ao1, c1, rfl, o1, g1⟩ := h1.elim
      have hown1 := own_old hown g1
      have B1 := hb.trans (g1.mono hb.size)
      have i1 := Rd.own o1
      have s1 := B1.size
      clear h1 o1 g1 hown hb hcx
      go_wp2_with (first
        | (at_builtin; refine wp_app rfl _ _ 23 rfl w.heap.size 5 Try.underlying23 (by kernel_rfl) _ _ _ rfl hown1 _ _ rfl i1 ?c1 ?c2 ?_))
      case c1 => omega
      case c2 => omega
      intro v3 x3 o3 g3
      have B3 := B1.grown g3 s1 (fun k hk => (hown1.lt k hk).1)
      have o4 : Hid (x3.ownsRow w.heap.size 5 1 v3 (many (M.take (k + 1))).length ((many (M.take (k + 1))).map bv)) := by
        rw [Hs.out, List.length_append, List.map_append]; exact o3
      clear o3 g3 hown1 i1 B1
      go_wp2_with fail
      go_roundw
      case rel => exact ⟨k + 1, by omega, by go_num, o4.out, B3⟩
      case measure => simp [intOf]; omega
    · obtain ⟨wo, rfl⟩ : ∃ wo : World, wo = wr := ⟨_, rfl⟩
      have hkM : k = M.length := by omega
      have hL := HL.out
      have hown2 : Hid (Rd wo u5 (many M)) := by
        have := Rd.own hown
        rwa [List.take_of_length_le (by omega)] at this
      have hmx : Hid ((many M).length ≤ 1000) := by have := (HX.out M.length).1; rwa [List.take_length] at this
      have hstop : ¬ k < len0 ∨ (k < len0 ∧ ¬ (k : Int) < 100) := by omega
      clear hL hown hkM hlt hk
      have hlen2 := (hown2.out).len (P := Try.prog) 23 5
      rcases hstop with hstop | ⟨hstop, hstop2⟩
      all_goals
        go_wp2_with fail
        refine (new_any wo u5 _ hown2.out (by have := hmx.out; omega)).mono ?_
        rintro e x6 ⟨R, rfl, hR, h6, g6⟩
        have B6 := hb.trans (g6.mono hb.size)
        have hRw : Hid (w.heap.size ≤ R) := Nat.le_trans hb.size hR
        have H6 := hid h6
        clear hb g6 h6 hR
        go_wp2_with fail
        refine (awake_any x6).mono ?_
        rintro e x7 ⟨rfl, g7⟩
        have H7 := hid (H6.out.old g7)
        have B7 := B6.trans (g7.mono B6.size)
        clear H6 g7 B6
        go_wp2_with fail
        go_loopw [8, 9] (fun x i wr => ∃ k : Nat, k ≤ M.length ∧ i = .int .i64 k ∧ x = .int .i64 ((many (M.drop k)).length : Nat) ∧ RAt wr R (many (M.drop k)) 0 ∧ Below w.heap.size w wr)
          (fun _ i _ => M.length - (intOf i).toNat)
        case atStart => exact ⟨0, Nat.zero_le _, rfl, rfl, H7.out, B7⟩
        case round =>
          obtain ⟨k, hk, rfl, rfl, hR7, hb7⟩ := hrel
          clear B7 H7 hlen2
          by_cases hlt : k < M.length
          · obtain ⟨b, off, v, rfl, hbl, hv, hln, hcl, -, hs⟩ := HF k hlt
            have hcx := (hb7.cell (p := ⟨b, off + k, none⟩) hbl).trans hcl
            have t1 : k < len0 := by have := HL.out; omega
            have t2 : (k : Int) < 100 := by have := HL.out; omega
            have Hs := hid hs
            have Hv := hid hv
            have HR : Hid (RAt wr R (numL v ++ many (M.drop (k + 1))) 0) := by rw [← hs]; exact hR7
            clear hs hv
            go_wp2_with fail
            go_region_with (go_at_call 28; refine (numR_back wr.drew R v _ Hv.out (show RAt wr.drew R _ 0 from HR.out)).mono ?_; rintro en w8 ⟨rfl, h8, g8⟩; have hb8 := hb7.drew.grown g8 hb7.size (fun k hk => by cases hk; exact hRw.out); have hc8 := (hb8.cell (p := ⟨b, off + k, none⟩) hbl).trans hcl)
            all_goals
              have H8 := hid h8
              clear h8 g8 hR7 hb7
              go_wp2_with fail
              refine (num_any v w8 hln).mono ?_
              rintro e x1 h1
              obtain ⟨ao1, c1, rfl, -, g1⟩ := h1.elim
              have HR9 := hid (H8.out.old g1)
              have B9 := hb8.trans (g1.mono hb8.size)
              have hlen9 : Hid ((many (M.drop k)).length = (numL v).length + (many (M.drop (k + 1))).length) := by rw [Hs.out, List.length_append]; exact rfl
              have hsub : ((many (M.drop k)).length : Int) - ((numL v).length : Int) = ((many (M.drop (k + 1))).length : Int) := by have := hlen9.out; omega
              have hbnd : (many (M.drop k)).length ≤ 1000 := (HX.out k).2
              clear h1 g1 hb8 hc8 H8
              go_wp2_with fail
              refine (left_any x1 R _ 0 HR9.out).mono ?_
              rintro en w2 ⟨rfl, rfl⟩
              go_wp2_with fail
              refine (err_any x1 R _ 0 HR9.out).mono ?_
              rintro en w2 ⟨rfl, rfl⟩
              go_wp2_with fail
              go_roundw
              case rel => exact ⟨k + 1, by omega, by go_num, by go_num, HR9.out, B9⟩
              case measure => simp [intOf]; omega
          · have hL := HL.out
            have hkM : k = M.length := by omega
            have HR : Hid (RAt wr R [] 0) := by
              have h1 := hR7
              rw [hkM, List.drop_length] at h1
              exact h1
            have hstop3 : ¬ k < len0 ∨ (k < len0 ∧ ¬ (k : Int) < 100) := by omega
            clear hL hR7 hkM hlt
            rcases hstop3 with hs3 | ⟨hs3, hs4⟩
            all_goals
              go_wp2_with fail
              refine (endR_any wr R [] 0 HR.out).mono ?_
              rintro en w2 ⟨rfl, rfl⟩
              rw [show endS [] 0 = 0 from rfl]
              go_wp2_with fail
              refine (smallR_any wr R [] 0 a1 w1 HR.out).mono ?_
              rintro en w3 ⟨rfl, h3, g3⟩
              rw [show lookS (nn a1) [] 0 = (0, 0, 8) from rfl] at *
              have H3 : Hid (RAt w3 R [] 8) := h3
              have B3 := hb7.grown g3 hb7.size (fun k hk => by cases hk; exact hRw.out)
              clear h3 g3 hb7
              go_wp2_with fail
              refine (err_any w3 R [] 8 H3.out).mono ?_
              rintro en w2 ⟨rfl, rfl⟩
              go_wp2_with fail
              refine (endR_any w3 R [] 8 H3.out).mono ?_
              rintro en w2 ⟨rfl, rfl⟩
              rw [show endS [] 8 = 8 from rfl]
              go_wp2_with fail
              go_ret
              exact ⟨rfl, B3⟩
end Go.Proofs.Ytmkcdckemaohdaa.codeMany
