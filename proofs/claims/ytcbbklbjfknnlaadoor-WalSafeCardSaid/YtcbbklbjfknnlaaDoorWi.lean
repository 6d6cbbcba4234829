/-
  WAL: Records.
-/
import Derived.Test.YtcbbklbjfknnlaaDoorWe
set_option linter.unusedVariables false
set_option maxRecDepth 100000
namespace Go.Proofs.YtcbbklbjfknnlaaDoor
open Go.RowKit

/-- 'append(v, x...)' as a step of a region; the row lies where it lay, or in a new block. -/
theorem wp_rapp3 {P : Program} {w : World} {ops : Array Oper} {rest : List Oper} {o : Oper} {a : Act} {Q : Exit → Act → World → Prop} (hgd : Region.wanted o (yielded ops a.tmps) = true) (s x : Operand) (t : TypeId)
    (ho : o.op = .call { callee := .builtin .append, args := #[s, x], argTypes := #[t, t] })
    (base size bytes : Nat) (e : TypeId) (ht : P.underlying t = some (.slice e)) (z : Value) (hinfo : (P.info? e).map (fun i => (i.zero, i.size, i.bytes)) = some (some z, size, bytes)) (hzs : z.cells.size = size) (hsz : 0 < size)
    (v : Value) (n : Nat) (xs : List Value) (hs : a.eval s = v) (hown : w.ownsRow base e size v n xs)
    (y : Value) (L : List (List Value)) (hx : a.eval x = y) (hr : Rws size w y L) (hn : (n + L.length) * bytes ≤ 140737488355328) (hm : n + L.length ≤ maxLen) (hbase : base ≤ w.heap.size)
    (h : ∀ v' w', w'.ownsRow base e size v' (n + L.length) (xs ++ L.flatten) → w.grownBy w' v.ownBlock → (∀ k, v'.ownBlock = some k → v.ownBlock = some k ∨ w.heap.size ≤ k) → wpList P ops Q rest (a.put o.dst v') w') : wpList P ops Q (o :: rest) a w := by
  refine wpList_step fun K hK => ?_
  rw [if_pos hgd]
  exact step_rapp s x t ho base size bytes e ht z hinfo hzs hsz v n xs hs hown y L hx hr hn hm hbase fun v' w' p q r => hK _ _ (h v' w' p q r)

theorem info_bs2 : (Tryd.prog.info? 32).map (fun i => (i.zero, i.size, i.bytes)) = some (some (.slice none 0 0), 1, 24) := info_bs

/-- A list of records of its own, from block B on. -/
structure Rown (B : Nat) (w : World) (y : Value) (R : List Rc) : Prop where
  row : w.ownsRow B 32 1 y R.length (R.map rcv)
  each : ∀ r ∈ R, Rd w (rcv r) r.b
  off : ∀ r ∈ R, r.b ≠ [] → ∀ a, r.a = some a → B ≤ a.block ∧ y.ownBlock ≠ some a.block

theorem Rown.nil (B : Nat) (w : World) : Rown B w (.slice none 0 0) [] := ⟨World.ownsRow_nil w B 32 1, (fun r hr => by cases hr), (fun r hr => by cases hr)⟩
theorem Rown.kept {B : Nat} {w w' : World} {y : Value} {R : List Rc} {X : Nat → Prop} (h : Rown B w y R) (hk : Keep X w w') (hx : ∀ k, B ≤ k → k < w.heap.size → ¬ X k) : Rown B w' y R :=
  ⟨own_keep h.row hk (fun k e => hx k (h.row.lt k e).1 (h.row.lt k e).2), fun r hr => (h.each r hr).keep hk (fun hne k hb e => by
    obtain ⟨a, ha, rfl⟩ := blk_of hb
    exact hx _ (h.off r hr hne a ha).1 (rd_block (h.each r hr) hne a ha) e), h.off⟩
theorem Rown.old {B : Nat} {w w' : World} {y : Value} {R : List Rc} (h : Rown B w y R) (hb : Below w.heap.size w w') : Rown B w' y R := h.kept (X := fun _ => False) (Keep.of_below hb) (fun _ _ _ h => h)

/-- What Records gives. -/
def RecordsA (R : List Rc) (w : World) (e : Ending) (w' : World) : Prop := ∃ y R', e = .returned y ∧ Rown w.heap.size w' y R' ∧ R'.map (·.b) = R.map (·.b) ∧ Below w.heap.size w w'

/-- One more record at the end. -/
theorem Rown.more {B : Nat} {w w' : World} {yo : Option Addr} {k yc : Nat} {v : Value} {R : List Rc} {r : Rc} {W0 : Nat} (h : Rown B w (.slice yo k yc) R) (hx : w.ownsRow W0 5 1 (rcv r) r.b.length (r.b.map bv)) (hW : B ≤ W0) (hy : ∀ j, (Value.slice yo k yc).ownBlock = some j → j < W0)
    (ho : w'.ownsRow B 32 1 v (R.length + 1) (R.map rcv ++ [rcv r])) (hg : w.grownBy w' (Value.slice yo k yc).ownBlock) (hf : ∀ j, v.ownBlock = some j → (Value.slice yo k yc).ownBlock = some j ∨ w.heap.size ≤ j) : Rown B w' v (R ++ [r]) := by
  have hk : Keep (fun j => (Value.slice yo k yc).ownBlock = some j) w w' := Keep.of_grown hg (fun _ e => e)
  have hrd : Rd w (rcv r) r.b := Rd.own hx
  have hra : ∀ a, r.a = some a → W0 ≤ a.block := fun a ha => (hx.lt a.block (by unfold rcv; rw [ha]; rfl)).1
  have hall : ∀ q ∈ R ++ [r], Rd w (rcv q) q.b ∧ (q.b ≠ [] → ∀ a, q.a = some a → B ≤ a.block ∧ (Value.slice yo k yc).ownBlock ≠ some a.block) := fun q hq => by
    rcases List.mem_append.1 hq with hq | hq
    · exact ⟨h.each q hq, h.off q hq⟩
    · obtain rfl := List.mem_singleton.1 hq
      exact ⟨hrd, fun _ a ha => ⟨Nat.le_trans hW (hra a ha), fun e => by have := hy _ e; have := hra a ha; omega⟩⟩
  refine ⟨by rw [List.length_append, List.map_append]; exact ho, fun q hq => (hall q hq).1.keep hk (fun hne j hb e => ?_), fun q hq hne a ha => ⟨((hall q hq).2 hne a ha).1, fun e => ?_⟩⟩
  · obtain ⟨a, ha, rfl⟩ := blk_of hb
    exact ((hall q hq).2 hne a ha).2 e
  · rcases hf _ e with e | e
    · exact ((hall q hq).2 hne a ha).2 e
    · have := rd_block (hall q hq).1 hne a ha
      omega

set_option maxHeartbeats 8000000 in
theorem records_ok {base : Nat} {w : World} {lb db sb n : Nat} {vw rv : Value} {S : List (List UInt8)} {Q : List Wr} {L : Ls} {R : List Rc} (h : Lg base w lb db sb n vw rv S Q L R) (hR : R.length ≤ 1000000) (hrl : ∀ r ∈ R, r.b.length ≤ 140737488355328) :
    Calls Tryd.prog 18 #[.pointer (some ⟨lb, 0, none⟩)] w (RecordsA R w) := by
  obtain ⟨c0, c1, c2, c3, c4, c5, -⟩ := h.l.cells
  obtain ⟨ao, c, rfl, hc1, hc2⟩ := h.r.form
  have hlen := fun W => run_len_slice (P := Tryd.prog) W 22 3 ao R.length c Tryd.underlying22
  have H := hid h
  clear h
  go_enter Tryd.func18, Tryd.ntmps18
  go_wp2_with fail
  clear c0 c1 c2 c3 c4 c5
  go_loopw [3, 13] (fun y i wr => ∃ (k : Nat) (R' : List Rc) (yo : Option Addr) (yc : Nat), k ≤ R.length ∧ i = .int .i64 (k : Int) ∧ y = .slice yo k yc ∧ Hid (Rown w.heap.size wr (.slice yo k yc) R') ∧ Hid (R'.map (·.b) = (R.take k).map (·.b)) ∧ Hid (Below w.heap.size w wr)) (fun _ i _ => R.length - (intOf i).toNat)
  case atStart => exact ⟨0, [], none, 0, by omega, rfl, rfl, Rown.nil _ _, by show _ = _; simp, Below.refl _ _⟩
  case round =>
    obtain ⟨k, R', yo, yc, hk, rfl, rfl, HO, HR', HB⟩ := hrel
    by_cases hlt : k < R.length
    · have hki : (k : Int) < (R.length : Int) := by omega
      have hv := List.getElem?_eq_getElem hlt
      generalize R[k]'_ = r at *
      have HOLD := hid (H.out.old HB.out)
      obtain ⟨g, o, rfl, hcell⟩ := HOLD.out.r.get hv
      have hrm := List.mem_of_getElem? hv
      have CC := hid (clone_any wr (rcv r) r.b (HOLD.out.r.each r hrm) (hrl r hrm))
      have hkc : (k : Int) < (c : Int) := by omega
      have HV := hid hv
      clear hv hrm
      unfold rcv at hcell CC
      go_wp2_with (first | (go_at_call 32; refine CC.out.mono ?_))
      rintro e w3 ⟨x, rfl, hx, hb3⟩
      obtain ⟨xo, xc, rfl⟩ := own_form hx
      have hO3 := HO.out.old hb3
      have HX3 := hid hx
      have HB3 := hid (HB.out.trans (hb3.mono HB.out.size))
      have HS3 := hid hb3.size
      have HS0 := hid HB.out.size
      have hba : Below w3.heap.size w3 (w3.alloc (.cells #[.slice xo r.b.length xc] 32)) := (Below.refl _ _).alloc (Nat.le_refl _) _
      have HO4 := hid (hO3.old hba)
      have HX4 := hid (own_old hx hba)
      have HB4 : Hid (Below w.heap.size w (w3.alloc (.cells #[.slice xo r.b.length xc] 32))) := HB3.out.trans (hba.mono HB3.out.size)
      have HR4 : Hid (Rws 1 (w3.alloc (.cells #[.slice xo r.b.length xc] 32)) (.slice (some ⟨w3.heap.size, 0, none⟩) 1 1) [[.slice xo r.b.length xc]]) := Rws.one (r := [.slice xo r.b.length xc]) rfl ⟨rfl, fun u hu => by obtain rfl := List.mem_singleton.1 hu; rfl⟩
      have HRL : Hid (R'.length = k) := by
        show _ = _
        have := congrArg List.length HR'.out
        simpa [Nat.min_eq_left hk] using this
      have HROW : Hid ((w3.alloc (.cells #[.slice xo r.b.length xc] 32)).ownsRow w.heap.size 32 1 (.slice yo k yc) k (R'.map rcv)) := by
        have := HO4.out.row
        rw [HRL.out] at this
        exact this
      clear hO3 hx hb3 hba
      go_wp2_with (first
        | (at_builtin; refine wp_rapp3 rfl _ _ 22 rfl w.heap.size 1 24 32 Tryd.underlying22 _ info_bs2 (by decide) (by decide) _ _ _ rfl HROW.out _ _ rfl HR4.out ?c1 ?c2 ?c3 ?_))
      case c1 => simp; omega
      case c2 => simp [maxLen]; omega
      case c3 => exact HB4.out.size
      intro v5 w5 o5 g5 hf5
      have HM := hid (Rown.more (r := ⟨xo, xc, r.b⟩) HO4.out HX4.out HS0.out (fun j e => (HO.out.row.lt j e).2) (by rw [HRL.out]; exact o5) g5 (by rw [show (w3.alloc (.cells #[.slice xo r.b.length xc] 32)).heap.size = w3.heap.size + 1 from by simp]; exact hf5))
      obtain ⟨vo, vc, rfl⟩ := own_form o5
      have HB5 : Hid (Below w.heap.size w w5) := HB4.out.grown g5 HB4.out.size (fun j e => (HO4.out.row.lt j e).1)
      clear o5 g5 hf5
      go_wp2_with fail
      go_roundw
      case rel => exact ⟨k + 1, R' ++ [⟨xo, xc, r.b⟩], vo, vc, by omega, by go_num, rfl, HM, by
        show _ = _
        rw [List.take_add_one, HV.out, List.map_append, List.map_append, HR'.out]
        rfl, HB5⟩
      case measure => first | (simp [intOf]; done) | (simp [intOf]; omega)
    · obtain rfl : k = R.length := by omega
      go_wp2_with fail
      go_ret
      exact ⟨_, R', rfl, HO.out, by rw [HR'.out, List.take_length], HB.out⟩
end Go.Proofs.YtcbbklbjfknnlaaDoor
