/-
  THE LAW WalRound: its walk.
-/
import Derived.Test.YtcbbklbjfknnlaaDoorWv
import Derived.LoopN
import Derived.Deep.OwnRows
import Derived.Deep.CutRange
import Derived.WalkKit
import Derived.ProofKit
import Derived.OpenShut
set_option linter.unusedVariables false
set_option linter.unusedSimpArgs false
set_option maxRecDepth 100000
namespace Go.Proofs.YtcbbklbjfknnlaaDoor.walRound
open Go.RowKit Go.ChangeShapes Go.WideShapes Go.ChangeAt

theorem bytes_any (x y : Value) (l m : List UInt8) (w : World) (hx : Rd w x l) (hy : Rd w y m) :
    Calls Tryd.prog 19 #[x, y] w fun e w' => e = .returned (.bool (l == m)) ∧ w' = w := by
  have c1 := hx.conv (P := Tryd.prog) 32 9 5 Tryd.underlying32 Tryd.underlying5 Tryd.underlying9
  have c2 := hy.conv (P := Tryd.prog) 32 9 5 Tryd.underlying32 Tryd.underlying5 Tryd.underlying9
  clear hx hy
  go_enter Tryd.func19, Tryd.ntmps19
  go_wp2_with fail
  go_ret
  exact ⟨rfl, rfl⟩

/-- The numbers of an argument, at plain addresses. -/
def Nums (w : World) (a : Option Addr) (len : Nat) : Prop := ∀ k, k < len → ∃ b off v, a = some ⟨b, off, none⟩ ∧ b < w.heap.size ∧ w.cell? ⟨b, off + k, none⟩ = some (.int .i64 v)
theorem nums_open {H : Type} {enc : TypeId × Value → H} {W : World} {a : Option Addr} {len cap : Nat} {d : DataW H} {p : List MemPlace} (h : DataW.Trod enc Tryd.prog W 0 (fun _ => true) true 23 (.slice a len cap) d p) : len ≤ cap ∧ cap ≤ maxLen ∧ Nums W a len := by
  obtain ⟨fuel, hf⟩ := h
  rcases open_ints Tryd.underlying23 Tryd.underlying3 (by kernel_rfl) hf with ⟨hcs, hx⟩ | ⟨x, l, c, zs, hcs, _, hl, hm, hz, hx, hc, hwz⟩
  · simp [Value.cells] at hcs
    obtain ⟨rfl, rfl, rfl⟩ := hcs
    exact ⟨Nat.le_refl _, by decide, fun k hk => by omega⟩
  · simp [Value.cells] at hcs
    obtain ⟨rfl, rfl, rfl⟩ := hcs
    have hz' : zs.length = cap := by simpa using hz
    refine ⟨hl, hm, fun k hk => ?_⟩
    obtain ⟨b, off, rfl, hc'⟩ := ints_at hc (by omega)
    exact ⟨b, off, _, rfl, World.block_lt_of_cell? W _ (hc' 0 (by omega)), hc' k (by omega)⟩

theorem gones_le (R : List Rc) (h : ∀ r ∈ R, r.b.length ≤ 399) : gones R R.length ≤ 8 * R.length := by
  unfold gones
  rw [List.take_length]
  induction R with
  | nil => simp
  | cons r R ih =>
    have h1 := h r (by simp)
    have h2 := ih (fun q hq => h q (by simp [hq]))
    simp only [List.map_cons, List.sum_cons, List.length_cons]
    have : secs r.b.length ≤ 8 := by unfold secs; omega
    omega

/-- The last of the records. -/
theorem last_rec {B : Nat} {w : World} {y : Value} {R' : List Rc} {M : List Rc} {l : List UInt8} {r : Rc} (h : Rown B w y R') (hl : R'.map (·.b) = (M ++ [r]).map (·.b)) (hr : r.b = l) : ∃ g c, y = .slice (some ⟨g, 0, none⟩) (M.length + 1) c ∧ ∃ q, w.cell? ⟨g, M.length, none⟩ = some (rcv q) ∧ Rd w (rcv q) l := by
  have hlen : R'.length = M.length + 1 := by
    have := congrArg List.length hl
    simpa using this
  have hrow := h.row
  rw [hlen] at hrow
  obtain ⟨g, c, rfl⟩ := ownsRow_succ hrow
  have hq : M.length < R'.length := by omega
  refine ⟨g, c, rfl, R'[M.length], ?_, ?_⟩
  · rw [hrow.cellAt M.length (by omega), List.getElem?_map, List.getElem?_eq_getElem hq]
    rfl
  · have he := h.each R'[M.length] (List.getElem_mem hq)
    have e2 : R'[M.length].b = l := by
      have h3 := congrArg (fun L => L[M.length]?) hl
      simp only [List.getElem?_map, List.getElem?_eq_getElem hq, Option.map_some, List.map_append] at h3
      rw [List.getElem?_append_right (by simp)] at h3
      simp at h3
      rw [h3, hr]
    rw [e2] at he
    exact he

theorem byte_of (y : Int) : ∃ u : UInt8, Value.int .u8 (IntKind.u8.wrap y) = bv u := by
  refine ⟨UInt8.ofNat (IntKind.u8.wrap y).toNat, ?_⟩
  unfold bv
  rw [UInt8.toNat_ofNat']
  have h : IntKind.u8.wrap y = y % 256 := by simp [IntKind.wrap, IntKind.bits, IntKind.signed]
  rw [h]
  congr 1
  omega

theorem wrap_rem (a : Int) (n : Nat) (h0 : 0 < n) (h1 : n ≤ 1000) : IntKind.i64.wrap ((IntKind.u64.wrap a).tmod (n : Int)) = (((IntKind.u64.wrap a).toNat % n : Nat) : Int) := by
  have hw : 0 ≤ IntKind.u64.wrap a := by rw [wrap_u64]; omega
  obtain ⟨x, hx⟩ : ∃ x : Nat, IntKind.u64.wrap a = (x : Int) := ⟨(IntKind.u64.wrap a).toNat, by omega⟩
  rw [hx]
  have e1 : (x : Int).tmod (n : Int) = ((x % n : Nat) : Int) := rfl
  have := Nat.mod_lt x h0
  rw [e1, IntKind.wrap_i64]
  simp only [Int.toNat_natCast]
  omega

/-- What a round makes, ahead of the look. -/
def Rnd (B lb db sb K k : Nat) (w : World) (x : Value) (l : List UInt8) (wx : World) : Prop :=
  ∃ vw rv M r, r.b = l ∧ Live B lb db sb 200 vw rv (M ++ [r]) (2 * k + 2) (k + 1 - K) (8 * k + 8) wx ∧ M.length + 1 = min (k + 1) K ∧ (∀ q ∈ M ++ [r], q.b.length ≤ 399) ∧ Rd wx x l ∧ Below B w wx
/-- What stands ahead of each round. -/
def Inv (B lb db sb K k : Nat) (w : World) (wx : World) : Prop :=
  ∃ vw rv R, Live B lb db sb 200 vw rv R (2 * k) (k - K) (8 * k) wx ∧ R.length = min k K ∧ (∀ q ∈ R, q.b.length ≤ 399) ∧ Below B w wx

theorem Rnd.inv {B lb db sb K k : Nat} {w wx wy : World} {x : Value} {l : List UInt8} (h : Rnd B lb db sb K k w x l wx) (hb : Below wx.heap.size wx wy) (hB : B ≤ wx.heap.size) : Inv B lb db sb K (k + 1) w wy := by
  obtain ⟨vw, rv, M, r, _, h2, h3, h4, _, h6⟩ := h
  exact ⟨vw, rv, M ++ [r], (h2.old hb).mono (by omega) (by omega), by simp [h3], h4, h6.trans (hb.mono hB)⟩

set_option maxHeartbeats 16000000 in
theorem walk0 (aa : Option Addr) (la ca : Nat) (a : Int) (w : World) (hlc : la ≤ ca) (hcm : ca ≤ maxLen) (hN : Nums w aa la) (ha : (Lit.int .i64 a).wf = true) :
    Calls Tryd.prog 4 #[.slice aa la ca, .int .i64 a] w (AnsP w (.bool true)) := by
  have CN : Hid (Calls Tryd.prog 7 #[.int .i64 200] w (NewA 200 w)) := new_any 200 (by omega) (by omega) w
  have hlena := fun W => run_len_slice (P := Tryd.prog) W 23 3 aa la ca Tryd.underlying23
  have hbk : ∃ K0 : Nat, K0 < 5 ∧ IntKind.i64.wrap ((IntKind.u64.wrap a).tmod 5) = (K0 : Int) := by
    refine ⟨(IntKind.u64.wrap a).toNat % 5, Nat.mod_lt _ (by omega), ?_⟩
    exact wrap_rem a 5 (by omega) (by omega)
  obtain ⟨K0, hK0, hKw⟩ := hbk
  obtain ⟨K, hK⟩ : ∃ K, K = K0 + 1 := ⟨_, rfl⟩
  have hKw2 : IntKind.i64.wrap (1 + (K0 : Int)) = (K : Int) := by rw [IntKind.wrap_i64]; omega
  have hKw3 : IntKind.u64.wrap (K : Int) = (K : Int) := by rw [wrap_u64]; omega
  have hK1 : 1 ≤ K ∧ K ≤ 5 := by omega
  have HN := hid hN
  have hm9 : maxLen = 9223372036854775807 := rfl
  have hca : (la : Int) ≤ 9223372036854775807 := by omega
  clear hK hK0 hN hcm ha hm9
  go_enter Tryd.func4, Tryd.ntmps4
  go_wp2_with (first | (go_at_call 7; refine CN.out.mono ?_))
  rintro e w1 ⟨db, sb, rfl, hD1, hb1⟩
  have CO := hid (open_new hD1 (by omega))
  have HB1 := hid hb1
  clear hD1 hb1
  go_wp2_with (first | (go_at_call 8; refine CO.out.mono ?_))
  rintro e w2 ⟨lb, rfl, hL2, hlb, hb2⟩
  have HB2 : Hid (Below w.heap.size w w2) := HB1.out.trans (hb2.mono HB1.out.size)
  have HL2 := hid hL2
  clear hL2 hb2 hlb
  go_wp2_with (first | (go_at_call 9; refine (wawake_any _).mono ?_; rintro e w3 ⟨rfl, hb3⟩))
  have HI3 : Hid (Inv w.heap.size lb db sb K 0 w w3) := ⟨_, _, [], (by simpa using (HL2.out.old hb3)), by simp, by simp, HB2.out.trans (hb3.mono HB2.out.size)⟩
  clear hb3
  go_loopw [10, 9] (fun i nn wr => ∃ k : Nat, k ≤ la ∧ k ≤ 120 ∧ i = .int .i64 (k : Int) ∧ nn = .int .u64 (k : Int) ∧ Hid (Inv w.heap.size lb db sb K k w wr)) (fun i _ _ => 120 - (intOf i).toNat)
  case atStart => exact ⟨0, by omega, by omega, rfl, rfl, HI3⟩
  case round =>
    obtain ⟨k, hk1, hk2, rfl, rfl, HI⟩ := hrel
    by_cases hlt : k < la
    · by_cases hlt2 : k < 120
      · obtain ⟨b, off, v, rfl, hbl, hcl0⟩ := HN.out k hlt
        have HBk : Hid (Below w.heap.size w wr) := by obtain ⟨_, _, _, _, _, _, h⟩ := HI.out; exact h
        have hcl : wr.cell? ⟨b, off + k, none⟩ = some (.int .i64 v) := (World.cell?_of_block (a := ⟨b, off + k, none⟩) (HBk.out.block b hbl)).trans hcl0
        obtain ⟨m, hm4, hmw⟩ : ∃ m : Nat, m < 400 ∧ IntKind.i64.wrap ((IntKind.u64.wrap v).tmod 400) = (m : Int) := ⟨_, Nat.mod_lt _ (by omega), wrap_rem v 400 (by omega) (by omega)⟩
        have hmk := run_make_row' (P := Tryd.prog) 32 5 (.int .u8 0) 1 Tryd.underlying32 info_u8 rfl .i64 .i64 m (by omega) (by omega)
        obtain ⟨mc, hmc⟩ : ∃ mc, mc = madeCells #[Value.int .u8 0] m := ⟨_, rfl⟩
        rw [← hmc] at hmk
        have hrow : (wr.alloc (.cells mc 5)).rowIs wr.heap.size 5 m (fun _ => .int .u8 0) := by rw [hmc]; exact World.rowIs_made wr _ m _
        have hbz : Below wr.heap.size wr (wr.alloc (.cells mc 5)) := (Below.refl _ _).alloc (Nat.le_refl _) _
        have HROW := hid hrow
        have HBZ := hid hbz
        have hlenb := fun W => run_len_slice (P := Tryd.prog) W 32 3 (some ⟨wr.heap.size, 0, none⟩) m m Tryd.underlying32
        clear hrow hbz hmc hcl0 hbl
        go_wp2_with fail
        generalize wr = W at *
        go_loopw [58] (fun kk wx => ∃ j : Nat, j ≤ m ∧ kk = .int .i64 (j : Int) ∧ Hid (∃ g : Nat → UInt8, wx.rowIs W.heap.size 5 m (fun i => bv (g i))) ∧ Hid (Below W.heap.size W wx)) (fun kk _ => m - (intOf kk).toNat)
        case atStart => exact ⟨0, by omega, rfl, ⟨fun _ => 0, HROW⟩, HBZ⟩
        case round =>
          obtain ⟨j, hjm, rfl, HR, HB⟩ := hrel
          by_cases hj : j < m
          · obtain ⟨g, hg⟩ := HR.out
            have hs0 := hg.cell hj
            have hs1 := hg.frozen j
            have HR2 : Hid (∀ y : Int, ∃ g : Nat → UInt8, (wr.setCell ⟨W.heap.size, j, none⟩ (.int .u8 (IntKind.u8.wrap y))).rowIs W.heap.size 5 m (fun i => bv (g i))) := hid fun y => by
              obtain ⟨u, hu⟩ := byte_of y
              rw [hu]
              refine ⟨fun i => if i = j then u else g i, (hg.set j (bv u)).congr (fun i hi => ?_)⟩
              by_cases h9 : i = j
              · simp [h9]
              · simp [h9]
            have HB2 : Hid (∀ y, Below W.heap.size W (wr.setCell ⟨W.heap.size, j, none⟩ y)) := hid fun y => HB.out.setCell (Nat.le_refl _) _
            unfold bv at hs0
            clear hg
            go_wp2_with fail
            go_roundw
            case rel => exact ⟨j + 1, by omega, by go_num, HR2.out _, HB2.out _⟩
            case measure => first | (simp [intOf]; done) | (simp [intOf]; omega)
          · obtain rfl : j = m := by omega
            obtain ⟨g, hg⟩ := HR.out
            have hown := row_own (l := (List.range j).map g) hg (Nat.le_refl W.heap.size) (by simp) (by unfold maxLen; omega) (fun i hi => ⟨g i, by rw [List.getElem?_map, List.getElem?_range hi]; rfl, rfl⟩)
            have hll0 : ((List.range j).map g).length = j := by simp
            generalize (List.range j).map g = l at hown hll0
            have hx := Rd.own hown
            obtain ⟨vw, rv, R, hL, hRl, hR399, hBw⟩ := HI.out
            have hxo : l ≠ [] → ∀ k, blk (.slice (some ⟨W.heap.size, 0, none⟩) l.length j) = some k → ¬ GL db sb vw lb rv k := fun _ k hk e => by
              obtain ⟨_, _, _, h9⟩ := hL
              have h1 := (h9.g.lt k e).2
              have h2 : W.heap.size = k := by simpa [blk] using hk
              omega
            have hg8 := gones_le R hR399
            have hs8 : secs l.length ≤ 8 := by unfold secs; omega
            have hx2 : Rd wr (.slice (some ⟨W.heap.size, 0, none⟩) l.length j) l := by rw [hll0]; exact hx
            have CA0 := append_live (hL.old HB.out) hx2 (by omega) (by omega) (by omega) (by omega) (by omega) (by omega) hxo
            rw [hll0] at CA0
            have CA := hid CA0
            have HX := hid hx
            have HL := hid hL
            have HXO := hid hxo
            have H399 := hid hR399
            have HRl := hid hRl
            have HL0 := hid hll0
            have HG8 := hid hs8
            have HBB : Hid (Below w.heap.size w wr) := hBw.trans (HB.out.mono hBw.size)
            clear CA0 hx hx2 hL hxo hR399 hRl hown hg hll0 hBw hg8 hs8
            go_upto_region 19 with (first | (go_at_call 11; refine CA.out.mono ?_; rintro e w5 ⟨rfl, vw5, rv5, r5, hr5, hL5, hG5⟩))
            go_cut [88] from 74 to 88 (fun bb wx => bb = .bool false ∧ Hid (Rnd w.heap.size lb db sb K k w (.slice (some ⟨W.heap.size, 0, none⟩) j j) l wx))
            case first =>
              have hx5 : Rd w5 (.slice (some ⟨W.heap.size, 0, none⟩) j j) l := HX.out.keep hG5.keep (fun hne i hi e => by
                have := HXO.out hne i (by rw [HL0.out]; exact hi)
                exact this e)
              have hb5 : Below w.heap.size w w5 := HBB.out.trans (live_below (HL.out.old HB.out) hG5)
              have h399 : ∀ q ∈ R ++ [r5], q.b.length ≤ 399 := fun q hq => by
                rcases List.mem_append.1 hq with e | e
                · exact H399.out q e
                · obtain rfl := List.mem_singleton.1 e
                  rw [hr5, HL0.out]
                  omega
              by_cases hKk : K < k + 1
              · obtain ⟨f1, hf1⟩ : ∃ f1, f1 = k - K + 1 := ⟨_, rfl⟩
                have hRK : R.length = K := by rw [HRl.out]; omega
                have CC0 := cut_live hL5 1 (by simp) (by omega) (by omega) (by omega) (by omega) (by simp [hRK]; omega)
                rw [← hf1] at CC0
                have CC := hid CC0
                have hsub : IntKind.u64.wrap ((k : Int) + 1 - (K : Int)) = (f1 : Int) := by rw [wrap_u64]; omega
                have hKi : ((K : Int) < (k : Int) + 1) := by omega
                have HL5 := hid hL5
                have HX5 := hid hx5
                have HG5 := hid hG5
                have HB5 := hid hb5
                have H399' := hid h399
                have HF1 := hid hf1
                have HRK := hid hRK
                have HR5 := hid hr5
                have HKi := hid hKk
                clear CC0 hL5 hx5 hb5 h399 hf1 hRK hG5 hr5 hKk
                go_wp2_with (first | (go_at_call 20; refine CC.out.mono ?_; rintro e w6 ⟨rfl, vw6, rv6, hL6, hG6⟩))
                go_meet
                refine ⟨rfl, vw6, rv6, R.drop 1, r5, HR5.out, ?_, ?_, fun q hq => ?_, ?_, HB5.out.trans (live_below HL5.out hG6)⟩
                · have e1 : (R ++ [r5]).drop 1 = R.drop 1 ++ [r5] := List.drop_append_of_le_length (by have := HRK.out; omega)
                  rw [e1] at hL6
                  have e2 : k + 1 - K = k - K + 1 := by have := HKi.out; omega
                  rw [e2]
                  exact hL6.mono (by omega) (by omega)
                · have := HRK.out
                  have := HKi.out
                  rw [List.length_drop]
                  omega
                · refine H399'.out q ?_
                  rcases List.mem_append.1 hq with e | e
                  · exact List.mem_append.2 (.inl (List.mem_of_mem_drop e))
                  · exact List.mem_append.2 (.inr e)
                · refine HX5.out.keep hG6.keep (fun hne i hi e => ?_)
                  rcases HG5.out.new i e with e | e
                  · exact HXO.out hne i (by rw [HL0.out]; exact hi) e
                  · have h1 := rd_block HX.out hne ⟨W.heap.size, 0, none⟩ rfl
                    have h2 : W.heap.size = i := by simpa [blk] using hi
                    simp only at h1
                    omega
              · have hKi : ¬ ((K : Int) < (k : Int) + 1) := by omega
                have HRn : Hid (Rnd w.heap.size lb db sb K k w (.slice (some ⟨W.heap.size, 0, none⟩) j j) l w5) := by
                  refine ⟨vw5, rv5, R, r5, hr5, ?_, by rw [HRl.out]; omega, h399, hx5, hb5⟩
                  have e2 : k + 1 - K = k - K := by omega
                  rw [e2]
                  exact hL5.mono (by omega) (by have := HG8.out; omega)
                clear hL5 hx5 hb5 h399 hG5 hr5 hKk
                go_wp2_with fail
                go_meet
                exact ⟨rfl, HRn⟩
            case rest =>
              obtain ⟨rfl, HRn⟩ := hcut
              obtain ⟨vw6, rv6, M, r6, hr6, hL6, hM6, h399, hx6, hb6⟩ := HRn.out
              have CR := hid (records_live hL6 (by simp; omega))
              have HL6 := hid hL6
              have HM6 := hid hM6
              have HX6 := hid hx6
              have HR6 := hid hr6
              have HB6 := hid hb6
              clear hr6 hL6 hM6 h399 hx6 hb6
              go_wp2_with (first | (go_at_call 18; refine CR.out.mono ?_))
              rintro e w7 ⟨y, R', rfl, hy, hR', hb7⟩
              obtain ⟨g7, c7, rfl, q7, hcell, hrd⟩ := last_rec hy hR' HR6.out
              have e9 : k + 1 - K + (M ++ [r6]).length = k + 1 := by
                rw [List.length_append]
                have := HM6.out
                simp only [List.length_cons, List.length_nil]
                omega
              have CX0 := next_live (HL6.out.old hb7) (by rw [e9]; omega)
              rw [e9] at CX0
              have hx7 := HX6.out.old hb7
              obtain ⟨qa, qc, qb⟩ := q7
              unfold rcv at hcell hrd
              simp only at hcell hrd
              generalize qb.length = qn at *
              obtain ⟨ml, hml⟩ : ∃ ml, ml = M.length := ⟨_, rfl⟩
              have hM9 := HM6.out
              rw [← hml] at hcell hM9 ⊢
              obtain ⟨p, hp⟩ : ∃ p, p = ml + 1 := ⟨_, rfl⟩
              rw [← hp]
              have CX : Hid (Calls Tryd.prog 15 #[.pointer (some ⟨lb, 0, none⟩)] w7 (fun e w' => e = .returned (.int .u64 ((k + 1 : Nat) : Int)) ∧ w'.cell? ⟨g7, ml, none⟩ = some (.slice qa qn qc) ∧ Hid (Rd w' (.slice qa qn qc) l ∧ Rd w' (.slice (some ⟨W.heap.size, 0, none⟩) j j) l ∧ Below w7.heap.size w7 w'))) := CX0.mono (by
                rintro e w' ⟨rfl, m9, rfl⟩
                have hb := Below.drewN9 w7 m9
                exact ⟨rfl, hcell, hrd.old hb, hx7.old hb, hb⟩)
              have hleny := fun W => run_len_slice (P := Tryd.prog) W 22 3 (some ⟨g7, 0, none⟩) p c7 Tryd.underlying22
              have HNX : Hid (∀ w', Below w7.heap.size w7 w' → Inv w.heap.size lb db sb K (k + 1) w w') := hid fun w' hb => Rnd.inv HRn.out (hb7.trans (hb.mono hb7.size)) HB6.out.size
              have CB : Hid (∀ W', Rd W' (.slice qa qn qc) l ∧ Rd W' (.slice (some ⟨W.heap.size, 0, none⟩) j j) l ∧ Below w7.heap.size w7 W' → Calls Tryd.prog 19 #[.slice qa qn qc, .slice (some ⟨W.heap.size, 0, none⟩) j j] W' (fun e w' => e = .returned (.bool true) ∧ w' = W')) := hid fun W' h => (bytes_any _ _ l l W' h.1 h.2.1).mono (by
                rintro e w' ⟨rfl, rfl⟩
                exact ⟨by simp, rfl⟩)
              have HHC := hid hcell
              clear CX0 hcell hrd hx7 hy hR' hb7 hml e9
              by_cases hKk : K < k + 1
              · obtain rfl : K = p := by omega
                have hKi : ((K : Int) < (k : Int) + 1) := by omega
                have hw9 : IntKind.i64.wrap ((K : Int) - 1) = (ml : Int) := by rw [IntKind.wrap_i64]; omega
                have hml9 : (ml : Int) < (K : Int) := by omega
                clear hM9 hp
                go_wp2_with (first
                  | (go_at_call 15; refine CX.out.mono ?_; rintro e w8 ⟨rfl, hcell8, H8⟩)
                  | (go_at_call 19; refine (CB.out _ H8.out).mono ?_; rintro e w9 ⟨rfl, rfl⟩))
                go_roundw
                case rel => exact ⟨k + 1, by omega, by omega, by go_num, by go_num, HNX.out _ H8.out.2.2⟩
                case measure => first | (simp [intOf]; done) | (simp [intOf]; omega)
              · obtain rfl : k = ml := by omega
                subst hp
                have hKi : ¬ ((K : Int) < (k : Int) + 1) := by omega
                have hKi2 : ¬ ((K : Int) < ((k + 1 : Nat) : Int)) := by omega
                have hKi3 : (k : Int) + 1 ≤ (K : Int) := by omega
                clear hM9
                go_wp2_with (first
                  | (go_at_call 15; refine CX.out.mono ?_; rintro e w8 ⟨rfl, hcell8, H8⟩)
                  | (go_at_call 19; refine (CB.out _ H8.out).mono ?_; rintro e w9 ⟨rfl, rfl⟩))
                go_roundw
                case rel => exact ⟨k + 1, by omega, by omega, by go_num, by go_num, HNX.out _ H8.out.2.2⟩
                case measure => first | (simp [intOf]; done) | (simp [intOf]; omega)
      · go_wp2_with fail
        go_ret
        exact ⟨rfl, by obtain ⟨_, _, _, _, _, _, h⟩ := HI.out; exact h⟩
    · go_wp2_with fail
      go_ret
      exact ⟨rfl, by obtain ⟨_, _, _, _, _, _, h⟩ := HI.out; exact h⟩
theorem walk {H : Type} {enc : TypeId × Value → H} {base : Nat} {d : DataW H} {p : List MemPlace} (x : Value) (a : Int) (w : World) (kx : Value.okWide Tryd.prog w .any base 23 x) (tx : DataW.Trod enc Tryd.prog w 0 (fun _ => true) true 23 x d p) (ha : (Lit.int .i64 a).wf = true) :
    Calls Tryd.prog 4 #[x, .int .i64 a] w (AnsP w (.bool true)) := by
  obtain ⟨aa, la, ca, rfl⟩ := WideShapes.okWide_slice Tryd.underlying23 kx
  obtain ⟨h1, h2, h3⟩ := nums_open tx
  exact walk0 aa la ca a w h1 h2 h3 ha
end Go.Proofs.YtcbbklbjfknnlaaDoor.walRound
