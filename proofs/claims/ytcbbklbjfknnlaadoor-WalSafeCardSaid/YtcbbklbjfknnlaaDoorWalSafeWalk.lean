/-
  THE LAW WalSafe: its walk.
-/
import Derived.Test.YtcbbklbjfknnlaaDoorWalSafe0
import Derived.Test.YtcbbklbjfknnlaaDoorDc
set_option linter.unusedVariables false
set_option linter.unusedSimpArgs false
set_option maxRecDepth 100000
namespace Go.Proofs.YtcbbklbjfknnlaaDoor.walSafe
open Go.RowKit Go.ChangeShapes Go.WideShapes Go.ChangeAt Go.Deep

/-- What a disk has that fell. -/
structure FalI (w : World) (db sb B : Nat) (S : List (List UInt8)) (k : Nat) (RA : List Rc) (x : Value) (dn : Bool) (wx : World) : Prop where
  d : Dk w.heap.size wx db sb 4000 (.slice none 0 0) S [] dn 0
  o : Ond 4000 S (newK S h0 2) ((RA.take k).map (·.b))
  h : (newK S h0 2).Ok ∧ (newK S h0 2).tn ≤ 1000000 ∧ (newK S h0 2).fi = 0
  row : wx.ownsRow w.heap.size 32 1 x RA.length (RA.map rcv)
  off : ∀ j, x.ownBlock = some j → ¬ DX db sb (.slice none 0 0) j
  nb : ¬ DX db sb (.slice none 0 0) B
  cb : wx.heap[B]? = some (.cells #[x] 22 (0, 0))
  below : Below w.heap.size w wx
  kl : k ≤ RA.length
  rl : ∀ r ∈ RA, r.b.length ≤ 32768

section
variable {w wx wy : World} {lb db sb A B q T m k : Nat} {RA : List Rc} {x : Value} {S : List (List UInt8)} {dn : Bool}

theorem FalI.old (h : FalI w db sb B S k RA x dn wx) (hb : Below wx.heap.size wx wy) : FalI w db sb B S k RA x dn wy :=
  ⟨h.d.old hb, h.o, h.h, own_old h.row hb, h.off, h.nb, (hb.block _ (lt_of_block h.cb)).trans h.cb, h.below.trans (hb.mono h.below.size), h.kl, h.rl⟩
theorem FalI.cell (h : FalI w db sb B S k RA x dn wx) : wx.cell? ⟨B, 0, none⟩ = some x := by simp [World.cell?, h.cb]
/-- Behind a call that wrote the disk's blocks alone. -/
theorem FalI.frame {S' : List (List UInt8)} {dn' : Bool} (h : FalI w db sb B S k RA x dn wx) (hd : Dk w.heap.size wy db sb 4000 (.slice none 0 0) S [] dn' 0) (hf : Dfr db sb (.slice none 0 0) (.slice none 0 0) wx wy) : FalI w db sb B S k RA x dn' wy :=
  ⟨hd, h.o, h.h, own_keep h.row hf.keep h.off, h.off, h.nb, (hf.keep.block _ (lt_of_block h.cb) h.nb).trans h.cb, h.below.trans (h.d.below hf), h.kl, h.rl⟩

theorem FalI.start (h : FalI w db sb B S k RA x true wx) : Calls Tryd.prog 14 #[.pointer (some ⟨db, 0, none⟩)] wx (fun e w' => e = .returned (.int .i64 0) ∧ FalI w db sb B S k RA x false w') := by
  refine (start_gen h.d (by simp)).mono ?_
  rintro e w' ⟨rfl, vw', hv, hD, hF⟩
  obtain rfl := hv rfl
  exact ⟨rfl, h.frame (S' := S) hD hF⟩
theorem FalI.crash (h : FalI w db sb B S k RA x false wx) : Calls Tryd.prog 13 #[.pointer (some ⟨db, 0, none⟩), .slice none 0 0] wx (fun e w' => e = .returned (.int .i64 0) ∧ FalI w db sb B S k RA x true w') := by
  refine (crash_gen h.d (.slice none 0 0) [] (Rws.nil 1 wx) (by simp)).mono ?_
  rintro e w' ⟨rfl, hD, hF⟩
  exact ⟨rfl, h.frame (S' := S) hD hF⟩

theorem map_take {R RA : List Rc} (h : R.map (·.b) = RA.map (·.b)) (k : Nat) : (R.take k).map (·.b) = (RA.take k).map (·.b) := by
  rw [List.map_take, h, ← List.map_take]
theorem St.crash (h : St w lb db sb A B q T m RA x wx) {xk : Value} {ks : List Int} (hk : Rws 1 wx xk (ks.map fun z => [.int .i64 z])) (hq : q ≤ 90000) (hRA : RA.length ≤ 90000) : Calls Tryd.prog 13 #[.pointer (some ⟨db, 0, none⟩), xk] wx (fun e w' => e = .returned (.int .i64 0) ∧ ∃ S k, m ≤ k ∧ FalI w db sb B S k RA x true w') := by
  obtain ⟨vw, rv, R, h⟩ := h
  obtain ⟨S, Q, L, m', hL, hd, hT, hm1, hm2, hW⟩ := h.log
  have hlen : R.length = RA.length := by simpa using congrArg List.length h.same
  have hD := hL.g.d
  have hql := hL.ql
  refine (crash_gen hD xk ks hk (by omega)).mono ?_
  rintro e w' ⟨rfl, hD2, hF⟩
  have hfall : newK (layM (tbM S Q.reverse) Q ks) h0 2 = L.h ∧ ∃ k, m' ≤ k ∧ k ≤ R.length ∧ Ond 4000 (layM (tbM S Q.reverse) Q ks) L.h ((R.take k).map (·.b)) := by
    rcases hd with ⟨e1, e2, e3, -⟩ | hd
    · have hus := hL.us
      have hwl := hW.len
      subst e3
      have hQ : Q = [] := by
        have : gones ([] : List Rc) ([] : List Rc).length = 0 := rfl
        exact List.length_eq_zero_iff.1 (by omega)
      subst hQ e2
      have hz := newK_zero (n := 4000) (by omega)
      have hls : layM (tbM (List.replicate 4000 z64) ([] : List Wr).reverse) [] ks = List.replicate 4000 z64 := rfl
      rw [hls, e1]
      exact ⟨hz, 0, by simpa using hm2, Nat.le_refl _, ⟨fun k l hk => (by cases hk), .inl (by unfold pieceM; rw [if_pos (.inr rfl)]), fun l hl => (by cases hl), by simp, by simp [offs]⟩⟩
    · have hus := hL.us
      rw [hus] at hW
      exact fall_ond hd hW hm2 hD.len (by omega) (by omega) hL.rl ks
  obtain ⟨f1, k, f2, f3, f4⟩ := hfall
  generalize layM (tbM S Q.reverse) Q ks = S' at *
  have hgl : ∀ j, DX db sb (.slice none 0 0) j → GL db sb vw lb rv j := fun j hj => by
    rcases hj with e | e | e
    · exact .inl (.inr (.inl e))
    · exact .inl (.inr (.inr (.inl e)))
    · cases e
  have hgl2 : ∀ j, DX db sb vw j → GL db sb vw lb rv j := fun j hj => .inl (.inr hj)
  refine ⟨rfl, S', k, by omega, hD2, ?_, ?_, own_keep h.row hF.keep (fun j hj e => h.off j hj (hgl2 j e)), fun j hj e => h.off j hj (hgl j e), fun e => h.nb (hgl B e), (hF.keep.block _ (lt_of_block h.cb) (fun e => h.nb (hgl2 B e))).trans h.cb, h.below.trans (hD.below hF), by omega, fun r hr => ?_⟩
  · rw [f1, ← map_take h.same k]
    exact f4
  · rw [f1]
    have := hL.tn
    exact ⟨hL.ok, by omega, hL.fi⟩
  · have hm : r.b ∈ RA.map (·.b) := List.mem_map.2 ⟨r, hr, rfl⟩
    rw [← h.same] at hm
    obtain ⟨y, hy, e⟩ := List.mem_map.1 hm
    rw [← e]
    exact hL.rl y hy

/-- What Open comes to. -/
def OpenF (w : World) (db sb B : Nat) (S : List (List UInt8)) (k : Nat) (RA : List Rc) (x : Value) (wx : World) (e : Ending) (w' : World) : Prop :=
  ∃ lb, e = .returned (.tuple #[.pointer (some ⟨lb, 0, none⟩), .int .i64 0]) ∧ FalI w db sb B S k RA x false w' ∧ Below wx.heap.size wx w' ∧
    (∀ W, Below w'.heap.size w' W → Calls Tryd.prog 16 #[.pointer (some ⟨lb, 0, none⟩)] W (fun e W' => e = .returned (.int .u64 0) ∧ W' = W)) ∧
    (∀ W, Below w'.heap.size w' W → Calls Tryd.prog 15 #[.pointer (some ⟨lb, 0, none⟩)] W (Draws W (.int .u64 (k : Int)))) ∧
    ∃ R, R.map (·.b) = (RA.take k).map (·.b) ∧ ∀ W, Below w'.heap.size w' W → Calls Tryd.prog 18 #[.pointer (some ⟨lb, 0, none⟩)] W (RecordsA R W)
theorem FalI.open' (h : FalI w db sb B S k RA x false wx) (hRA : RA.length ≤ 90000) : Calls Tryd.prog 8 #[.pointer (some ⟨db, 0, none⟩)] wx (OpenF w db sb B S k RA x wx) := by
  obtain ⟨h1, h2, h3⟩ := h.h
  have hk := h.kl
  refine (open_some h.d (by omega) (fun j hj => nmb_lt (by omega) _ j (by omega) hj) _ h.o).mono ?_
  rintro e w' ⟨lb, rv, R, rfl, hR, hL, -, -, hb⟩
  have hlen : R.length = k := by
    have := congrArg List.length hR
    simp at this
    omega
  refine ⟨lb, rfl, h.old hb, hb, fun W hW => ?_, fun W hW => ?_, R, hR, fun W hW => ?_⟩
  · have := first_any (hL.old hW).l
    simp only [h3] at this
    exact this
  · have := next_any (hL.old hW).l R.length (by obtain ⟨ao, c, e, -⟩ := hL.r.form; exact ⟨ao, c, e⟩) (by simp only [h3]; omega)
    simp only [h3, Nat.zero_add, hlen] at this
    exact this
  · refine records_ok (hL.old hW) (by omega) (fun r hr => ?_)
    have hm : r.b ∈ R.map (·.b) := List.mem_map.2 ⟨r, hr, rfl⟩
    rw [hR] at hm
    obtain ⟨y, hy, e⟩ := List.mem_map.1 hm
    have := h.rl y (List.mem_of_mem_take hy)
    rw [← e]
    omega

theorem _root_.Go.Proofs.YtcbbklbjfknnlaaDoor.Bss.take {w : World} {x : Value} {R : List Rc} (h : Bss w x R) (n : Nat) (hn : n ≤ R.length) :
    ∃ (ao : Option Addr) (c : Nat), (∀ k W, (Instr.slice 22 x none (some (.int k (n : Int))) none).run Tryd.prog W = .ok (.slice ao n c) W) ∧ Bss w (.slice ao n c) (R.take n) := by
  obtain ⟨ao, c, h1, h2, -⟩ := h.1.head (P := Tryd.prog) 22 32 Tryd.underlying22 (by kernel_rfl) n (by rw [List.length_map]; exact hn)
  exact ⟨ao, c, h1, ⟨by rw [List.map_take]; exact h2, fun r hr => h.2 r (List.mem_of_mem_take hr)⟩⟩
theorem FalI.all (h : FalI w db sb B S k RA x dn wx) (hRd : ∀ r ∈ RA, Rd w (rcv r) r.b) : Bss wx x RA := by
  refine ⟨Rws.own (base := w.heap.size) (e := 32) ?_ ?_, fun r hr => (hRd r hr).below (Below.refl _ _) h.below⟩
  · rw [flat_one, List.length_map]
    exact h.row
  · intro r hr
    obtain ⟨q, -, rfl⟩ := List.mem_map.1 hr
    refine ⟨rfl, fun u hu => ?_⟩
    obtain rfl := List.mem_singleton.1 hu
    rfl
end

theorem ri_open {H : Type} {enc : TypeId × Value → H} {W : World} {a : Option Addr} {len cap : Nat} {d : DataW H} {p : List MemPlace} (h : DataW.Trod enc Tryd.prog W 0 (fun _ => true) true 23 (.slice a len cap) d p) : ∃ ks : List Int, ks.length = len ∧ Rws 1 W (.slice a len cap) (ks.map fun z => [.int .i64 z]) := by
  obtain ⟨fuel, hf⟩ := h
  rcases open_ints Tryd.underlying23 Tryd.underlying3 (by kernel_rfl) hf with ⟨hcs, hx⟩ | ⟨x, l, c, zs, hcs, _, hl, hm, hz, hx, hc, hwz⟩
  · simp [Value.cells] at hcs
    obtain ⟨rfl, rfl, rfl⟩ := hcs
    exact ⟨[], rfl, Rws.nil 1 W⟩
  · simp [Value.cells] at hcs
    obtain ⟨rfl, rfl, rfl⟩ := hcs
    have hz' : zs.length = cap := by simpa using hz
    have hlen : (zs.take len).length = len := by rw [List.length_take]; omega
    refine ⟨zs.take len, hlen, some x, cap, by rw [List.length_map, hlen], by rw [List.length_map, hlen]; exact hl, hm, (fun e => by cases e), fun r hr => ?_, fun a ha j u hu => ?_⟩
    · obtain ⟨z, _, rfl⟩ := List.mem_map.1 hr
      exact ⟨rfl, fun u hu => by simp at hu; subst hu; rfl⟩
    · cases ha
      have e1 : ∀ l : List Int, (l.map fun z => [Value.int .i64 z]).flatten = l.map fun z => .int .i64 z := fun l => by
        induction l with
        | nil => rfl
        | cons z l ih => rw [List.map_cons, List.flatten_cons, ih]; rfl
      rw [e1, List.getElem?_map] at hu
      cases h9 : (zs.take len)[j]? with
      | none => rw [h9] at hu; cases hu
      | some z =>
        rw [h9] at hu
        simp only [Option.map_some, Option.some.injEq] at hu
        subst hu
        have hj := (List.getElem?_eq_some_iff.1 h9).1
        rw [hlen] at hj
        rw [List.getElem?_take_of_lt hj] at h9
        have := hc j (by omega)
        rw [List.getD_eq_getElem?_getD, h9] at this
        exact this

theorem fresh {base lb db sb n t f T : Nat} {vw rv : Value} {w : World} (h : LiveD base lb db sb n vw rv [] t f 0 T w) : LiveC base lb db sb n vw rv [] t f 0 T 0 w := by
  obtain ⟨S, Q, L, h, hd, hT⟩ := h
  have hQ : Q.length = 0 := by have := h.ql; omega
  have hu : L.used = 0 := h.us
  have hs : L.h.su ≤ 0 := by
    rcases hd with ⟨e, -⟩ | hd
    · rw [e]; exact Nat.le_refl _
    · exact hd.su
  refine ⟨S, Q, L, 0, h, hd, hT, Nat.le_refl _, Nat.zero_le _, ⟨hs, ?_, fun i x hx => ?_⟩⟩
  · rw [hu, hQ]; rfl
  · have := (List.getElem?_eq_some_iff.1 hx).1
    omega

set_option maxHeartbeats 16000000 in
theorem walk0 (a0 a1 a2 : Option Addr) (n0 n1 n2 c0 c1 c2 : Nat) (RI RJ : List Rc) (ks : List Int) (w : World) (hn0 : n0 = RI.length) (hn1 : n1 = RJ.length) (hI : Bss w (.slice a0 n0 c0) RI) (hJ : Bss w (.slice a1 n1 c1) RJ) (hK : Rws 1 w (.slice a2 n2 c2) (ks.map fun z => [.int .i64 z])) :
    Calls Tryd.prog 3 #[.slice a0 n0 c0, .slice a1 n1 c1, .slice a2 n2 c2] w (AnsP w (.bool true)) := by
  have CN : Hid (Calls Tryd.prog 7 #[.int .i64 4000] w (NewA 4000 w)) := new_any 4000 (by omega) (by omega) w
  have HI := hid hI
  have HJ := hid hJ
  have HK := hid hK
  have HN0 := hid hn0
  have HN1 := hid hn1
  clear hI hJ hK hn0 hn1
  go_enter Tryd.func3, Tryd.ntmps3
  go_wp2_with (first | (go_at_call 7; refine CN.out.mono ?_))
  rintro e w1 ⟨db, sb, rfl, hD1, hb1⟩
  have CO := hid (open_newD hD1 (by omega))
  have HB1 := hid hb1
  clear hD1 hb1
  go_upto_region 3 with (first | (go_at_call 8; refine CO.out.mono ?_; rintro e w2 ⟨lb, rfl, hL2, hlb, hb2⟩))
  have hA : ∃ A w3, A = w2.heap.size ∧ w3 = w2.alloc (.cells #[.pointer (some ⟨lb, 0, none⟩)] 28) ∧ w3.heap[A]? = some (.cells #[.pointer (some ⟨lb, 0, none⟩)] 28 (0, 0)) ∧ Below w2.heap.size w2 w3 := ⟨_, _, rfl, rfl, heap_alloc_new _ _, (Below.refl _ _).alloc (Nat.le_refl _) _⟩
  obtain ⟨A, w3, eA, ew3, hA3, hb3⟩ := hA
  rw [← ew3, ← eA]
  have hb23 : Below w.heap.size w w2 := HB1.out.trans (hb2.mono HB1.out.size)
  have hlt2 : ∀ j, GL db sb (.slice none 0 0) lb (.slice none 0 0) j → j < w2.heap.size := by
    obtain ⟨_, _, _, hL, -⟩ := hL2
    exact fun j hj => (hL.g.lt j hj).2
  have cA3 : w3.cell? ⟨A, 0, none⟩ = some (.pointer (some ⟨lb, 0, none⟩)) := by simp [World.cell?, hA3]
  have HA3 := hid hA3
  have HL3 : Hid (LiveD w.heap.size lb db sb 4000 (.slice none 0 0) (.slice none 0 0) [] 0 0 0 0 w3) := hL2.old hb3
  have HB3 : Hid (Below w.heap.size w w3) := hb23.trans (hb3.mono hb23.size)
  have HGL : Hid (∀ j, GL db sb (.slice none 0 0) lb (.slice none 0 0) j → j < A) := fun j hj => by rw [eA]; exact hlt2 j hj
  have HWA : Hid (w.heap.size ≤ A) := by rw [eA]; exact hb23.size
  clear hA3 hL2 hb2 hb3 hb23 hlt2 hlb ew3 eA CO CN HB1
  go_upto_region 7 with (first | (go_at_call 9; refine (wawake_any _).mono ?_; rintro e w4 ⟨rfl, hb4⟩; have cA4 : w4.cell? ⟨A, 0, none⟩ = some (.pointer (some ⟨lb, 0, none⟩)) := (World.cell?_of_block (w := w3) (a := ⟨A, 0, none⟩) (hb4.block _ (lt_of_block HA3.out))).trans cA3))
  have hB : ∃ B w5, B = w4.heap.size ∧ w5 = w4.alloc (.cells #[.slice none 0 0] 22) ∧ w5.heap[B]? = some (.cells #[.slice none 0 0] 22 (0, 0)) ∧ Below w4.heap.size w4 w5 := ⟨_, _, rfl, rfl, heap_alloc_new _ _, (Below.refl _ _).alloc (Nat.le_refl _) _⟩
  obtain ⟨B, w5, eB, ew5, hB5, hb5⟩ := hB
  rw [← ew5, ← eB]
  have hAl := lt_of_block HA3.out
  have hS5 : St w lb db sb A B 0 0 0 [] (.slice none 0 0) w5 := by
    have hA5 := (hb5.block A (Nat.lt_of_lt_of_le hAl hb4.size)).trans ((hb4.block A hAl).trans HA3.out)
    have hAB : A < B := by rw [eB]; exact Nat.lt_of_lt_of_le hAl hb4.size
    refine ⟨_, _, [], fresh ((HL3.out.old hb4).old hb5), rfl, World.ownsRow_nil w5 w.heap.size 32 1, (fun j hj => by cases hj), (fun q hq => by cases hq), fun e => ?_, fun e => ?_, ⟨by omega, (fun h => by cases h), (fun h => by cases h), HWA.out, by have := HWA.out; omega⟩, hA5, hB5, ?_⟩
    · have := HGL.out _ e; omega
    · have := HGL.out _ e; omega
    · have h4 := HB3.out.trans (hb4.mono HB3.out.size)
      exact h4.trans (hb5.mono h4.size)
  have HS5 := hid hS5
  have CP := hid (put_any hS5 HN0.out HI.out (by omega) (by omega) (by simp) (fun r hr => by cases hr))
  clear hS5 hB5 hb5 ew5 eB hb4 cA4 cA3 hAl HA3 HL3 HB3 HGL HWA
  go_wp2_with (first | (go_at_call 10; refine CP.out.mono ?_; unfold PutA; rintro e w6 ⟨rfl, RN, x6, hR6, hl6, hS6⟩; obtain ⟨cA6, cB6, fB6, hb6, xo6, xc6, rfl⟩ := hS6.cells))
  rw [List.nil_append] at hS6 hR6
  have CS6 := hid (St.sync hS6)
  have HR6 := hid hR6
  have HL6 := hid hl6
  clear hS6 hR6 hb6 cA6 cB6 fB6 hl6 CP HS5
  go_wp2_with (first | (go_at_call 12; refine CS6.out.mono ?_; rintro e w7 ⟨rfl, hS7⟩; obtain ⟨cA7, cB7, fB7, hb7, -⟩ := hS7.cells; obtain ⟨jl, hjl⟩ : ∃ jl, jl = RN.length := ⟨_, rfl⟩; have hlx7 := fun W => run_len_slice (P := Tryd.prog) W 22 3 xo6 RN.length xc6 Tryd.underlying22; rw [← hjl] at hlx7 cB7; have hjx : (jl : Int) ≤ 9223372036854775807 := by (have := HL6.out; omega)))
  have HJL := hid hjl
  have CP7 := hid (put_any hS7 HN1.out HJ.out (by omega) (by omega) (by have := HL6.out; omega) HR6.out)
  clear hS7 cB7 cA7 hb7 fB7 hlx7 hjx hjl CS6
  go_wp2_with (first | (go_at_call 10; refine CP7.out.mono ?_; unfold PutA; rintro e w8 ⟨rfl, RM, x8, hR8, hl8, hS8⟩; obtain ⟨cA8, cB8, fB8, hb8, xo8, xc8, rfl⟩ := hS8.cells))
  have hlr : (RN ++ RM).length ≤ 24 := by rw [List.length_append]; have := HL6.out; omega
  have hmr : RN.length ≤ (RN ++ RM).length := by rw [List.length_append]; omega
  have HMR := hid hmr
  obtain ⟨RA, hRA⟩ : ∃ RA, RA = RN ++ RM := ⟨_, rfl⟩
  rw [← hRA] at hlr hS8 hR8
  have CC8 := hid (St.crash hS8 (HK.out.old (w' := w8) hb8) (by omega) (by omega))
  have HR8 := hid hR8
  have HL8 := hid hlr
  clear hR8 hlr hS8 cA8 cB8 fB8 hb8 hRA hmr hl8 CP7
  go_wp2_with (first | (go_at_call 13; refine CC8.out.mono ?_; rintro e w9 ⟨rfl, S, k, hk1, hF9⟩))
  have CS9 := hid (FalI.start hF9)
  have hk2 := hF9.kl
  clear hF9 CC8
  go_wp2_with (first | (go_at_call 14; refine CS9.out.mono ?_; rintro e w10 ⟨rfl, hF10⟩))
  have CO10 := hid (FalI.open' hF10 (by have := HL8.out; omega))
  clear hF10 CS9
  have hRA24 := HL8.out
  have hkw : IntKind.i64.wrap (k : Int) = (k : Int) := by rw [IntKind.wrap_i64]; omega
  have hku : IntKind.u64.wrap (k : Int) = (k : Int) := by rw [wrap_u64]; omega
  obtain ⟨sl, hsl⟩ : ∃ sl, sl = RN.length := ⟨_, rfl⟩
  obtain ⟨al, hal⟩ : ∃ al, al = RA.length := ⟨_, rfl⟩
  rw [← hsl] at hk1 ⊢
  rw [← hal] at hk2 hRA24 CO10
  have hsu : IntKind.u64.wrap (sl : Int) = (sl : Int) := by rw [wrap_u64]; omega
  have hlt1 : ¬ ((k : Int) < (sl : Int)) := by omega
  have hlt2 : ¬ ((al : Int) < (k : Int)) := by omega
  have hlt3 : (sl : Int) ≤ (k : Int) := by omega
  have HAL := hid hal
  clear hsl hal
  go_wp2_with (first | (go_at_call 8; refine CO10.out.mono ?_))
  rintro e w11 ⟨lm, rfl, hF11, hb11, cf, cn, R11, hR11, cr⟩
  have HF11 := hid hF11
  have CF11 := hid cf
  have CN11 := hid cn
  have CR11 := hid cr
  have HR11 := hid hR11
  have CN0 := hid (cn w11 (Below.refl _ _))
  have cB11 := hF11.cell
  clear hF11 hb11 cf cn cr hR11 CO10
  go_upto_region 16 with (first | (go_at_call 15; refine CN0.out.mono ?_; rintro e w12 ⟨rfl, m12, rfl⟩))
  have hb12 : Below w11.heap.size w11 (w11.drewN m12) := ⟨rfl, rfl, rfl, Nat.le_refl _, fun _ _ => rfl⟩
  have HB12 := hid hb12
  have HF12 := hid (HF11.out.old hb12)
  generalize w11.drewN m12 = w12 at *
  clear hb12 cB11 CN0
  have hlx := fun W => run_len_slice (P := Tryd.prog) W 22 3 xo8 al xc8 Tryd.underlying22
  obtain ⟨zo, zc, hzs, hzb⟩ := (HF12.out.all HR8.out).take k (by rw [← HAL.out]; omega)
  have hzi : ∀ W, (Instr.slice 22 (.slice xo8 al xc8) none (some (.int .i64 (k : Int))) none).run Tryd.prog W = .ok (.slice zo k zc) W := fun W => hzs _ W
  have HZB := hid hzb
  clear hzs hzb
  go_cut [101] from 79 to 101 (fun b wx => b = .bool false ∧ Hid (Below w12.heap.size w12 wx))
  case first =>
    obtain ⟨S9, hS9⟩ : ∃ S9 : World → Prop, S9 = fun V => V.cell? ⟨B, 0, none⟩ = some (.slice xo8 al xc8) := ⟨_, rfl⟩
    have hY : ∀ V, S9 V → V.cell? ⟨B, 0, none⟩ = some (.slice xo8 al xc8) := fun V h => by rw [hS9] at h; exact h
    have HC : Hid (∀ V, Below w12.heap.size w12 V → S9 V) := fun V hV => by rw [hS9]; exact (HF12.out.old hV).cell
    clear hS9
    have hWd : Below w12.heap.size w12 w12.drew := ⟨rfl, rfl, rfl, Nat.le_refl _, fun _ _ => rfl⟩
    have HWm : Hid (∀ W m, Below w12.heap.size w12 W → Below w12.heap.size W (W.drewN m)) := hid fun W m hb => ⟨rfl, rfl, rfl, Nat.le_refl _, fun _ _ => rfl⟩
    have HX : Hid (∀ V, Below w12.heap.size w12 V → Below w11.heap.size w11 V) := fun V hV => HB12.out.trans (hV.mono HB12.out.size)
    have CSm : Hid (∀ W2 y R', Bss W2 y R' → R'.map (·.b) = R11.map (·.b) → Below w12.heap.size w12 W2 → Calls Tryd.prog 17 #[y, .slice zo k zc, .func (.func 19) #[] #[]] W2 (AnsP W2 (.bool true))) := hid fun W2 y R' q1 q2 q3 => same_bs _ _ _ _ _ q1 (HZB.out.old q3) (by rw [q2, HR11.out])
    refine wp_region_noPanic ?_
    refine wp_region_held_drew (S := S9) (by kernel_rfl) ?hs0SA (fun hHeld => ?_)
    case hs0SA => exact HC.out _ hWd
    have HWd := hid hWd
    clear hWd
    generalize w12.drew = Wd at *
    have CFd := hid (CF11.out _ (HX.out _ HWd.out))
    have CRd := hid (CR11.out _ (HX.out _ HWd.out))
    refine wpAnyH_take (i := 0) (v := (.int .i64 (k : Int))) rfl (by kernel_rfl) (by kernel_rfl) (by kernel_rfl) (fun _ _ _ h => (show False from h).elim) ?xySA1 ?xhSA1 ?xrSA1
    case xhSA1 => exact hHeld
    case xySA1 => exact Or.inl ⟨by rfl, fun W9 hW => by clear hHeld; simp only [List.getElem_toArray, List.getElem_cons_succ, List.getElem_cons_zero]; go_simp⟩
    simp only [Act.put, List.getElem_toArray, List.getElem_cons_succ, List.getElem_cons_zero, List.setIfInBounds_toArray, List.set_cons_succ, List.set_cons_zero]
    refine wpAnyH_take (i := 1) (v := (.int .i64 (sl : Int))) rfl (by kernel_rfl) (by kernel_rfl) (by kernel_rfl) (fun _ _ _ h => (show False from h).elim) ?xySA2 ?xhSA2 ?xrSA2
    case xhSA2 => exact hHeld
    case xySA2 => exact Or.inl ⟨by rfl, fun W9 hW => by clear hHeld; simp only [List.getElem_toArray, List.getElem_cons_succ, List.getElem_cons_zero]; go_simp⟩
    simp only [Act.put, List.getElem_toArray, List.getElem_cons_succ, List.getElem_cons_zero, List.setIfInBounds_toArray, List.set_cons_succ, List.set_cons_zero]
    refine wpAnyH_take (i := 2) (v := (.bool false)) rfl (by kernel_rfl) (by kernel_rfl) (by kernel_rfl) (fun _ _ _ h => (show False from h).elim) ?xySA3 ?xhSA3 ?xrSA3
    case xhSA3 => exact hHeld
    case xySA3 => exact Or.inl ⟨by rfl, fun W9 hW => by clear hHeld; simp only [List.getElem_toArray, List.getElem_cons_succ, List.getElem_cons_zero]; go_simp⟩
    simp only [Act.put, List.getElem_toArray, List.getElem_cons_succ, List.getElem_cons_zero, List.setIfInBounds_toArray, List.set_cons_succ, List.set_cons_zero]
    refine wpAnyH_take (i := 3) (v := (.bool false)) rfl (by kernel_rfl) (by kernel_rfl) (by kernel_rfl) (fun _ _ _ h => (show False from h).elim) ?xySA4 ?xhSA4 ?xrSA4
    case xhSA4 => exact hHeld
    case xySA4 => exact Or.inl ⟨by rfl, fun W9 hW => by clear hHeld; simp only [List.getElem_toArray, List.getElem_cons_succ, List.getElem_cons_zero]; go_simp⟩
    simp only [Act.put, List.getElem_toArray, List.getElem_cons_succ, List.getElem_cons_zero, List.setIfInBounds_toArray, List.set_cons_succ, List.set_cons_zero]
    refine wpAnyH_take (i := 4) (v := (.int .i64 (k : Int))) rfl (by kernel_rfl) (by kernel_rfl) (by kernel_rfl) (fun _ _ _ h => (show False from h).elim) ?xySA5 ?xhSA5 ?xrSA5
    case xhSA5 => exact hHeld
    case xySA5 => exact Or.inl ⟨by rfl, fun W9 hW => by clear hHeld; simp only [List.getElem_toArray, List.getElem_cons_succ, List.getElem_cons_zero]; go_simp⟩
    simp only [Act.put, List.getElem_toArray, List.getElem_cons_succ, List.getElem_cons_zero, List.setIfInBounds_toArray, List.set_cons_succ, List.set_cons_zero]
    refine wpAnyH_take (i := 5) (v := (.slice xo8 al xc8)) rfl (by kernel_rfl) (by kernel_rfl) (by kernel_rfl) (fun _ _ _ h => (show False from h).elim) ?xySA6 ?xhSA6 ?xrSA6
    case xhSA6 => exact hHeld
    case xySA6 => exact Or.inl ⟨by rfl, fun W9 hW => by have hcB9 := hY _ hW; clear hHeld; simp only [List.getElem_toArray, List.getElem_cons_succ, List.getElem_cons_zero]; go_simp⟩
    simp only [Act.put, List.getElem_toArray, List.getElem_cons_succ, List.getElem_cons_zero, List.setIfInBounds_toArray, List.set_cons_succ, List.set_cons_zero]
    refine wpAnyH_take (i := 6) (v := (.int .i64 (al : Int))) rfl (by kernel_rfl) (by kernel_rfl) (by kernel_rfl) (fun _ _ _ h => (show False from h).elim) ?xySA7 ?xhSA7 ?xrSA7
    case xhSA7 => exact hHeld
    case xySA7 => exact Or.inl ⟨by rfl, fun W9 hW => by clear hHeld; simp only [List.getElem_toArray, List.getElem_cons_succ, List.getElem_cons_zero]; go_simp⟩
    simp only [Act.put, List.getElem_toArray, List.getElem_cons_succ, List.getElem_cons_zero, List.setIfInBounds_toArray, List.set_cons_succ, List.set_cons_zero]
    refine wpAnyH_take (i := 7) (v := (.bool false)) rfl (by kernel_rfl) (by kernel_rfl) (by kernel_rfl) (fun _ _ _ h => (show False from h).elim) ?xySA8 ?xhSA8 ?xrSA8
    case xhSA8 => exact hHeld
    case xySA8 => exact Or.inl ⟨by rfl, fun W9 hW => by clear hHeld; simp only [List.getElem_toArray, List.getElem_cons_succ, List.getElem_cons_zero]; go_simp⟩
    simp only [Act.put, List.getElem_toArray, List.getElem_cons_succ, List.getElem_cons_zero, List.setIfInBounds_toArray, List.set_cons_succ, List.set_cons_zero]
    refine wpAnyH_take (i := 8) (v := (.bool false)) rfl (by kernel_rfl) (by kernel_rfl) (by kernel_rfl) (fun _ _ _ h => (show False from h).elim) ?xySA9 ?xhSA9 ?xrSA9
    case xhSA9 => exact hHeld
    case xySA9 => exact Or.inl ⟨by rfl, fun W9 hW => by clear hHeld; simp only [List.getElem_toArray, List.getElem_cons_succ, List.getElem_cons_zero]; go_simp⟩
    simp only [Act.put, List.getElem_toArray, List.getElem_cons_succ, List.getElem_cons_zero, List.setIfInBounds_toArray, List.set_cons_succ, List.set_cons_zero]
    refine wpAnyH_take (i := 9) (v := (.bool false)) rfl (by kernel_rfl) (by kernel_rfl) (by kernel_rfl) (fun _ _ _ h => (show False from h).elim) ?xySA10 ?xhSA10 ?xrSA10
    case xhSA10 => exact hHeld
    case xySA10 => exact Or.inl ⟨by rfl, fun W9 hW => by clear hHeld; simp only [List.getElem_toArray, List.getElem_cons_succ, List.getElem_cons_zero]; go_simp⟩
    simp only [Act.put, List.getElem_toArray, List.getElem_cons_succ, List.getElem_cons_zero, List.setIfInBounds_toArray, List.set_cons_succ, List.set_cons_zero]
    refine wpAnyH_take (i := 10) (v := (.pointer (some ⟨lm, 0, none⟩))) rfl (by kernel_rfl) (by kernel_rfl) (by kernel_rfl) (fun _ _ _ h => (show False from h).elim) ?xySA11 ?xhSA11 ?xrSA11
    case xhSA11 => exact hHeld
    case xySA11 => exact Or.inl ⟨by rfl, fun W9 hW => by clear hHeld; simp only [List.getElem_toArray, List.getElem_cons_succ, List.getElem_cons_zero]; go_simp⟩
    simp only [Act.put, List.getElem_toArray, List.getElem_cons_succ, List.getElem_cons_zero, List.setIfInBounds_toArray, List.set_cons_succ, List.set_cons_zero]
    refine wpAnyH_ready (rs := [11]) (by kernel_rfl) (by simp) ?_
    refine AllReadyH.cons rfl (fun K hK => ?_) AllReadyH.nil
    go_simp
    go_wp2_with (first | (go_at_call 16; refine CFd.out.mono ?_; rintro e w8' ⟨rfl, rfl⟩))
    refine hK.out _ _ (HC.out _ HWd.out) (fun hHeld => ?_)
    clear hK K
    refine wpAnyH_take (i := 12) (v := (.bool false)) rfl (by kernel_rfl) (by kernel_rfl) (by kernel_rfl) (fun _ _ _ h => (show False from h).elim) ?xySA12 ?xhSA12 ?xrSA12
    case xhSA12 => exact hHeld
    case xySA12 => exact Or.inl ⟨by rfl, fun W9 hW => by clear hHeld; simp only [List.getElem_toArray, List.getElem_cons_succ, List.getElem_cons_zero]; go_simp⟩
    simp only [Act.put, List.getElem_toArray, List.getElem_cons_succ, List.getElem_cons_zero, List.setIfInBounds_toArray, List.set_cons_succ, List.set_cons_zero]
    refine wpAnyH_take (i := 13) (v := (.bool false)) rfl (by kernel_rfl) (by kernel_rfl) (by kernel_rfl) (fun _ _ _ h => (show False from h).elim) ?xySA13 ?xhSA13 ?xrSA13
    case xhSA13 => exact hHeld
    case xySA13 => exact Or.inl ⟨by rfl, fun W9 hW => by clear hHeld; simp only [List.getElem_toArray, List.getElem_cons_succ, List.getElem_cons_zero]; go_simp⟩
    simp only [Act.put, List.getElem_toArray, List.getElem_cons_succ, List.getElem_cons_zero, List.setIfInBounds_toArray, List.set_cons_succ, List.set_cons_zero]
    refine wpAnyH_take (i := 14) (v := (.bool false)) rfl (by kernel_rfl) (by kernel_rfl) (by kernel_rfl) (fun _ _ _ h => (show False from h).elim) ?xySA14 ?xhSA14 ?xrSA14
    case xhSA14 => exact hHeld
    case xySA14 => exact Or.inl ⟨by rfl, fun W9 hW => by clear hHeld; simp only [List.getElem_toArray, List.getElem_cons_succ, List.getElem_cons_zero]; go_simp⟩
    simp only [Act.put, List.getElem_toArray, List.getElem_cons_succ, List.getElem_cons_zero, List.setIfInBounds_toArray, List.set_cons_succ, List.set_cons_zero]
    refine wpAnyH_take (i := 15) (v := (.pointer (some ⟨lm, 0, none⟩))) rfl (by kernel_rfl) (by kernel_rfl) (by kernel_rfl) (fun _ _ _ h => (show False from h).elim) ?xySA15 ?xhSA15 ?xrSA15
    case xhSA15 => exact hHeld
    case xySA15 => exact Or.inl ⟨by rfl, fun W9 hW => by clear hHeld; simp only [List.getElem_toArray, List.getElem_cons_succ, List.getElem_cons_zero]; go_simp⟩
    simp only [Act.put, List.getElem_toArray, List.getElem_cons_succ, List.getElem_cons_zero, List.setIfInBounds_toArray, List.set_cons_succ, List.set_cons_zero]
    refine wpAnyH_take (i := 17) (v := (.slice xo8 al xc8)) rfl (by kernel_rfl) (by kernel_rfl) (by kernel_rfl) (fun _ _ _ h => (show False from h).elim) ?xySA16 ?xhSA16 ?xrSA16
    case xhSA16 => exact hHeld
    case xySA16 => exact Or.inl ⟨by rfl, fun W9 hW => by have hcB9 := hY _ hW; clear hHeld; simp only [List.getElem_toArray, List.getElem_cons_succ, List.getElem_cons_zero]; go_simp⟩
    simp only [Act.put, List.getElem_toArray, List.getElem_cons_succ, List.getElem_cons_zero, List.setIfInBounds_toArray, List.set_cons_succ, List.set_cons_zero]
    refine wpAnyH_take (i := 18) (v := (.int .i64 (k : Int))) rfl (by kernel_rfl) (by kernel_rfl) (by kernel_rfl) (fun _ _ _ h => (show False from h).elim) ?xySA17 ?xhSA17 ?xrSA17
    case xhSA17 => exact hHeld
    case xySA17 => exact Or.inl ⟨by rfl, fun W9 hW => by clear hHeld; simp only [List.getElem_toArray, List.getElem_cons_succ, List.getElem_cons_zero]; go_simp⟩
    simp only [Act.put, List.getElem_toArray, List.getElem_cons_succ, List.getElem_cons_zero, List.setIfInBounds_toArray, List.set_cons_succ, List.set_cons_zero]
    refine wpAnyH_take (i := 19) (v := (.slice zo k zc)) rfl (by kernel_rfl) (by kernel_rfl) (by kernel_rfl) (fun _ _ _ h => (show False from h).elim) ?xySA18 ?xhSA18 ?xrSA18
    case xhSA18 => exact hHeld
    case xySA18 => exact Or.inl ⟨by rfl, fun W9 hW => by clear hHeld; simp only [List.getElem_toArray, List.getElem_cons_succ, List.getElem_cons_zero]; go_simp⟩
    simp only [Act.put, List.getElem_toArray, List.getElem_cons_succ, List.getElem_cons_zero, List.setIfInBounds_toArray, List.set_cons_succ, List.set_cons_zero]
    refine wpAnyH_ready (rs := [16]) (by kernel_rfl) (by simp) ?_
    refine AllReadyH.cons rfl (fun K hK => ?_) AllReadyH.nil
    go_simp
    go_wp2_with (first | (go_at_call 18; refine CRd.out.mono ?_; rintro e wA ⟨y, R', rfl, hy, hR', hbA⟩; have HyB := hid (And.intro (Rown.bss hy) (And.intro hR' (HWd.out.trans (hbA.mono HWd.out.size)))); clear hy hR' hbA))
    refine hK.out _ _ (HC.out _ HyB.out.2.2) (fun hHeld => ?_)
    clear hK K
    refine wpAnyH_ready (rs := [20]) (by kernel_rfl) (by simp) ?_
    refine AllReadyH.cons rfl (fun K hK => ?_) AllReadyH.nil
    go_simp
    go_wp2_with (first | (go_at_call 17; refine (CSm.out _ _ _ HyB.out.1 HyB.out.2.1 HyB.out.2.2).mono ?_; rintro e wB ⟨rfl, hbB⟩; have HBB : Hid (Below w12.heap.size w12 wB) := HyB.out.2.2.trans (hbB.mono HyB.out.2.2.size); clear hbB))
    refine hK.out _ _ (HC.out _ HBB.out) (fun hHeld => ?_)
    clear hK K
    refine wpAnyH_take (i := 21) (v := (.bool false)) rfl (by kernel_rfl) (by kernel_rfl) (by kernel_rfl) (fun _ _ _ h => (show False from h).elim) ?xySA19 ?xhSA19 ?xrSA19
    case xhSA19 => exact hHeld
    case xySA19 => exact Or.inl ⟨by rfl, fun W9 hW => by clear hHeld; simp only [List.getElem_toArray, List.getElem_cons_succ, List.getElem_cons_zero]; go_simp⟩
    simp only [Act.put, List.getElem_toArray, List.getElem_cons_succ, List.getElem_cons_zero, List.setIfInBounds_toArray, List.set_cons_succ, List.set_cons_zero]
    refine wpAnyH_take (i := 22) (v := (.bool false)) rfl (by kernel_rfl) (by kernel_rfl) (by kernel_rfl) (fun _ _ _ h => (show False from h).elim) ?xySA20 ?xhSA20 ?xrSA20
    case xhSA20 => exact hHeld
    case xySA20 => exact Or.inl ⟨by rfl, fun W9 hW => by clear hHeld; simp only [List.getElem_toArray, List.getElem_cons_succ, List.getElem_cons_zero]; go_simp⟩
    simp only [Act.put, List.getElem_toArray, List.getElem_cons_succ, List.getElem_cons_zero, List.setIfInBounds_toArray, List.set_cons_succ, List.set_cons_zero]
    refine wpAnyH_done (by kernel_rfl) ?_ _
    refine NoPanic.normal ?_
    go_wp2_with fail
    go_meet
    exact ⟨rfl, HBB⟩
  case rest =>
  obtain ⟨rfl, HBC⟩ := hcut
  have hF13 := HF12.out.old HBC.out
  have HBW : Hid (Below w.heap.size w wc) := hF13.below
  have CC13 := hid (FalI.crash hF13)
  clear hF13 HBC HF12 HZB hzi hlx CF11 CN11 CR11 HR11 HF11 HB12
  go_wp2_with (first | (go_at_call 13; refine CC13.out.mono ?_; rintro e w14 ⟨rfl, hF14⟩))
  have CS14 := hid (FalI.start hF14)
  clear hF14 CC13
  go_wp2_with (first | (go_at_call 14; refine CS14.out.mono ?_; rintro e w15 ⟨rfl, hF15⟩))
  have CO15 := hid (FalI.open' hF15 (by have := HL8.out; omega))
  clear hF15 CS14
  go_upto_region 21 with (first | (go_at_call 8; refine CO15.out.mono ?_; rintro e w16 ⟨ln, rfl, hF16, hb16, -, cn, R16, hR16, cr⟩))
  have HF16 := hid hF16
  have CN16 := hid cn
  have CR16 := hid cr
  have HR16 := hid hR16
  clear hF16 hb16 cn cr hR16 CO15
  have hlx2 := fun W => run_len_slice (P := Tryd.prog) W 22 3 xo8 al xc8 Tryd.underlying22
  obtain ⟨zo, zc, hzs, hzb⟩ := (HF16.out.all HR8.out).take k (by rw [← HAL.out]; omega)
  have hzi : ∀ W, (Instr.slice 22 (.slice xo8 al xc8) none (some (.int .u64 (k : Int))) none).run Tryd.prog W = .ok (.slice zo k zc) W := fun W => hzs _ W
  have HZB := hid hzb
  clear hzs hzb
  obtain ⟨S9, hS9⟩ : ∃ S9 : World → Prop, S9 = fun V => V.cell? ⟨B, 0, none⟩ = some (.slice xo8 al xc8) := ⟨_, rfl⟩
  have hY : ∀ V, S9 V → V.cell? ⟨B, 0, none⟩ = some (.slice xo8 al xc8) := fun V h => by rw [hS9] at h; exact h
  have HC : Hid (∀ V, Below w16.heap.size w16 V → S9 V) := fun V hV => by rw [hS9]; exact (HF16.out.old hV).cell
  clear hS9
  have hWd : Below w16.heap.size w16 w16.drew := ⟨rfl, rfl, rfl, Nat.le_refl _, fun _ _ => rfl⟩
  have HWm : Hid (∀ W m, Below w16.heap.size w16 W → Below w16.heap.size w16 (W.drewN m)) := hid fun W m hb => hb.trans ⟨rfl, rfl, rfl, Nat.le_refl _, fun _ _ => rfl⟩
  have CSm : Hid (∀ W2 y R', Bss W2 y R' → R'.map (·.b) = R16.map (·.b) → Below w16.heap.size w16 W2 → Calls Tryd.prog 17 #[y, .slice zo k zc, .func (.func 19) #[] #[]] W2 (AnsP W2 (.bool true))) := hid fun W2 y R' q1 q2 q3 => same_bs _ _ _ _ _ q1 (HZB.out.old q3) (by rw [q2, HR16.out])
  refine wp_region_noPanic ?_
  refine wp_region_held_drew (S := S9) (by kernel_rfl) ?hs0SB (fun hHeld => ?_)
  case hs0SB => exact HC.out _ hWd
  have HWd := hid hWd
  clear hWd
  generalize w16.drew = Wd at *
  have CXd := hid (CN16.out _ HWd.out)
  refine wpAnyH_take (i := 0) (v := (.int .i64 0)) rfl (by kernel_rfl) (by kernel_rfl) (by kernel_rfl) (fun _ _ _ h => (show False from h).elim) ?xySB1 ?xhSB1 ?xrSB1
  case xhSB1 => exact hHeld
  case xySB1 => exact Or.inl ⟨by rfl, fun W9 hW => by clear hHeld; simp only [List.getElem_toArray, List.getElem_cons_succ, List.getElem_cons_zero]; go_simp⟩
  simp only [Act.put, List.getElem_toArray, List.getElem_cons_succ, List.getElem_cons_zero, List.setIfInBounds_toArray, List.set_cons_succ, List.set_cons_zero]
  refine wpAnyH_take (i := 1) (v := (.bool true)) rfl (by kernel_rfl) (by kernel_rfl) (by kernel_rfl) (fun _ _ _ h => (show False from h).elim) ?xySB2 ?xhSB2 ?xrSB2
  case xhSB2 => exact hHeld
  case xySB2 => exact Or.inl ⟨by rfl, fun W9 hW => by clear hHeld; simp only [List.getElem_toArray, List.getElem_cons_succ, List.getElem_cons_zero]; go_simp⟩
  simp only [Act.put, List.getElem_toArray, List.getElem_cons_succ, List.getElem_cons_zero, List.setIfInBounds_toArray, List.set_cons_succ, List.set_cons_zero]
  refine wpAnyH_take (i := 2) (v := (.bool true)) rfl (by kernel_rfl) (by kernel_rfl) (by kernel_rfl) (fun _ _ _ h => (show False from h).elim) ?xySB3 ?xhSB3 ?xrSB3
  case xhSB3 => exact hHeld
  case xySB3 => exact Or.inl ⟨by rfl, fun W9 hW => by clear hHeld; simp only [List.getElem_toArray, List.getElem_cons_succ, List.getElem_cons_zero]; go_simp⟩
  simp only [Act.put, List.getElem_toArray, List.getElem_cons_succ, List.getElem_cons_zero, List.setIfInBounds_toArray, List.set_cons_succ, List.set_cons_zero]
  refine wpAnyH_take (i := 3) (v := (.pointer (some ⟨ln, 0, none⟩))) rfl (by kernel_rfl) (by kernel_rfl) (by kernel_rfl) (fun _ _ _ h => (show False from h).elim) ?xySB4 ?xhSB4 ?xrSB4
  case xhSB4 => exact hHeld
  case xySB4 => exact Or.inl ⟨by rfl, fun W9 hW => by clear hHeld; simp only [List.getElem_toArray, List.getElem_cons_succ, List.getElem_cons_zero]; go_simp⟩
  simp only [Act.put, List.getElem_toArray, List.getElem_cons_succ, List.getElem_cons_zero, List.setIfInBounds_toArray, List.set_cons_succ, List.set_cons_zero]
  refine wpAnyH_take (i := 4) (v := (.bool true)) rfl (by kernel_rfl) (by kernel_rfl) (by kernel_rfl) (fun _ _ _ h => (show False from h).elim) ?xySB5 ?xhSB5 ?xrSB5
  case xhSB5 => exact hHeld
  case xySB5 => exact Or.inl ⟨by rfl, fun W9 hW => by clear hHeld; simp only [List.getElem_toArray, List.getElem_cons_succ, List.getElem_cons_zero]; go_simp⟩
  simp only [Act.put, List.getElem_toArray, List.getElem_cons_succ, List.getElem_cons_zero, List.setIfInBounds_toArray, List.set_cons_succ, List.set_cons_zero]
  refine wpAnyH_take (i := 5) (v := (.bool true)) rfl (by kernel_rfl) (by kernel_rfl) (by kernel_rfl) (fun _ _ _ h => (show False from h).elim) ?xySB6 ?xhSB6 ?xrSB6
  case xhSB6 => exact hHeld
  case xySB6 => exact Or.inl ⟨by rfl, fun W9 hW => by clear hHeld; simp only [List.getElem_toArray, List.getElem_cons_succ, List.getElem_cons_zero]; go_simp⟩
  simp only [Act.put, List.getElem_toArray, List.getElem_cons_succ, List.getElem_cons_zero, List.setIfInBounds_toArray, List.set_cons_succ, List.set_cons_zero]
  refine wpAnyH_take (i := 6) (v := (.bool true)) rfl (by kernel_rfl) (by kernel_rfl) (by kernel_rfl) (fun _ _ _ h => (show False from h).elim) ?xySB7 ?xhSB7 ?xrSB7
  case xhSB7 => exact hHeld
  case xySB7 => exact Or.inl ⟨by rfl, fun W9 hW => by clear hHeld; simp only [List.getElem_toArray, List.getElem_cons_succ, List.getElem_cons_zero]; go_simp⟩
  simp only [Act.put, List.getElem_toArray, List.getElem_cons_succ, List.getElem_cons_zero, List.setIfInBounds_toArray, List.set_cons_succ, List.set_cons_zero]
  refine wpAnyH_take (i := 7) (v := (.pointer (some ⟨ln, 0, none⟩))) rfl (by kernel_rfl) (by kernel_rfl) (by kernel_rfl) (fun _ _ _ h => (show False from h).elim) ?xySB8 ?xhSB8 ?xrSB8
  case xhSB8 => exact hHeld
  case xySB8 => exact Or.inl ⟨by rfl, fun W9 hW => by clear hHeld; simp only [List.getElem_toArray, List.getElem_cons_succ, List.getElem_cons_zero]; go_simp⟩
  simp only [Act.put, List.getElem_toArray, List.getElem_cons_succ, List.getElem_cons_zero, List.setIfInBounds_toArray, List.set_cons_succ, List.set_cons_zero]
  refine wpAnyH_take (i := 9) (v := (.int .i64 (k : Int))) rfl (by kernel_rfl) (by kernel_rfl) (by kernel_rfl) (fun _ _ _ h => (show False from h).elim) ?xySB9 ?xhSB9 ?xrSB9
  case xhSB9 => exact hHeld
  case xySB9 => exact Or.inl ⟨by rfl, fun W9 hW => by clear hHeld; simp only [List.getElem_toArray, List.getElem_cons_succ, List.getElem_cons_zero]; go_simp⟩
  simp only [Act.put, List.getElem_toArray, List.getElem_cons_succ, List.getElem_cons_zero, List.setIfInBounds_toArray, List.set_cons_succ, List.set_cons_zero]
  refine wpAnyH_take (i := 10) (v := (.int .u64 (k : Int))) rfl (by kernel_rfl) (by kernel_rfl) (by kernel_rfl) (fun _ _ _ h => (show False from h).elim) ?xySB10 ?xhSB10 ?xrSB10
  case xhSB10 => exact hHeld
  case xySB10 => exact Or.inl ⟨by rfl, fun W9 hW => by clear hHeld; simp only [List.getElem_toArray, List.getElem_cons_succ, List.getElem_cons_zero]; go_simp⟩
  simp only [Act.put, List.getElem_toArray, List.getElem_cons_succ, List.getElem_cons_zero, List.setIfInBounds_toArray, List.set_cons_succ, List.set_cons_zero]
  refine wpAnyH_ready (rs := [8]) (by kernel_rfl) (by simp) ?_
  refine AllReadyH.cons rfl (fun K hK => ?_) AllReadyH.nil
  go_simp
  go_wp2_with (first | (go_at_call 15; refine CXd.out.mono ?_; rintro e w9' ⟨rfl, m9, rfl⟩; have HWe := hid (HWm.out _ m9 HWd.out)))
  refine hK.out _ _ (HC.out _ HWe.out) (fun hHeld => ?_)
  clear hK K
  generalize Wd.drewN m9 = We at *
  have CXe := hid (CN16.out _ HWe.out)
  refine wpAnyH_take (i := 11) (v := (.bool true)) rfl (by kernel_rfl) (by kernel_rfl) (by kernel_rfl) (fun _ _ _ h => (show False from h).elim) ?xySB11 ?xhSB11 ?xrSB11
  case xhSB11 => exact hHeld
  case xySB11 => exact Or.inl ⟨by rfl, fun W9 hW => by clear hHeld; simp only [List.getElem_toArray, List.getElem_cons_succ, List.getElem_cons_zero]; go_simp⟩
  simp only [Act.put, List.getElem_toArray, List.getElem_cons_succ, List.getElem_cons_zero, List.setIfInBounds_toArray, List.set_cons_succ, List.set_cons_zero]
  refine wpAnyH_take (i := 12) (v := (.bool true)) rfl (by kernel_rfl) (by kernel_rfl) (by kernel_rfl) (fun _ _ _ h => (show False from h).elim) ?xySB12 ?xhSB12 ?xrSB12
  case xhSB12 => exact hHeld
  case xySB12 => exact Or.inl ⟨by rfl, fun W9 hW => by clear hHeld; simp only [List.getElem_toArray, List.getElem_cons_succ, List.getElem_cons_zero]; go_simp⟩
  simp only [Act.put, List.getElem_toArray, List.getElem_cons_succ, List.getElem_cons_zero, List.setIfInBounds_toArray, List.set_cons_succ, List.set_cons_zero]
  refine wpAnyH_take (i := 13) (v := (.bool true)) rfl (by kernel_rfl) (by kernel_rfl) (by kernel_rfl) (fun _ _ _ h => (show False from h).elim) ?xySB13 ?xhSB13 ?xrSB13
  case xhSB13 => exact hHeld
  case xySB13 => exact Or.inl ⟨by rfl, fun W9 hW => by clear hHeld; simp only [List.getElem_toArray, List.getElem_cons_succ, List.getElem_cons_zero]; go_simp⟩
  simp only [Act.put, List.getElem_toArray, List.getElem_cons_succ, List.getElem_cons_zero, List.setIfInBounds_toArray, List.set_cons_succ, List.set_cons_zero]
  refine wpAnyH_take (i := 14) (v := (.pointer (some ⟨ln, 0, none⟩))) rfl (by kernel_rfl) (by kernel_rfl) (by kernel_rfl) (fun _ _ _ h => (show False from h).elim) ?xySB14 ?xhSB14 ?xrSB14
  case xhSB14 => exact hHeld
  case xySB14 => exact Or.inl ⟨by rfl, fun W9 hW => by clear hHeld; simp only [List.getElem_toArray, List.getElem_cons_succ, List.getElem_cons_zero]; go_simp⟩
  simp only [Act.put, List.getElem_toArray, List.getElem_cons_succ, List.getElem_cons_zero, List.setIfInBounds_toArray, List.set_cons_succ, List.set_cons_zero]
  refine wpAnyH_take (i := 16) (v := (.int .i64 (sl : Int))) rfl (by kernel_rfl) (by kernel_rfl) (by kernel_rfl) (fun _ _ _ h => (show False from h).elim) ?xySB15 ?xhSB15 ?xrSB15
  case xhSB15 => exact hHeld
  case xySB15 => exact Or.inl ⟨by rfl, fun W9 hW => by clear hHeld; simp only [List.getElem_toArray, List.getElem_cons_succ, List.getElem_cons_zero]; go_simp⟩
  simp only [Act.put, List.getElem_toArray, List.getElem_cons_succ, List.getElem_cons_zero, List.setIfInBounds_toArray, List.set_cons_succ, List.set_cons_zero]
  refine wpAnyH_take (i := 17) (v := (.int .u64 (sl : Int))) rfl (by kernel_rfl) (by kernel_rfl) (by kernel_rfl) (fun _ _ _ h => (show False from h).elim) ?xySB16 ?xhSB16 ?xrSB16
  case xhSB16 => exact hHeld
  case xySB16 => exact Or.inl ⟨by rfl, fun W9 hW => by clear hHeld; simp only [List.getElem_toArray, List.getElem_cons_succ, List.getElem_cons_zero]; go_simp⟩
  simp only [Act.put, List.getElem_toArray, List.getElem_cons_succ, List.getElem_cons_zero, List.setIfInBounds_toArray, List.set_cons_succ, List.set_cons_zero]
  refine wpAnyH_ready (rs := [15]) (by kernel_rfl) (by simp) ?_
  refine AllReadyH.cons rfl (fun K hK => ?_) AllReadyH.nil
  go_simp
  go_wp2_with (first | (go_at_call 15; refine CXe.out.mono ?_; rintro e w9'' ⟨rfl, m10, rfl⟩; have HWf := hid (HWm.out _ m10 HWe.out)))
  refine hK.out _ _ (HC.out _ HWf.out) (fun hHeld => ?_)
  clear hK K
  generalize We.drewN m10 = Wf at *
  have CRf := hid (CR16.out _ HWf.out)
  refine wpAnyH_take (i := 18) (v := (.bool true)) rfl (by kernel_rfl) (by kernel_rfl) (by kernel_rfl) (fun _ _ _ h => (show False from h).elim) ?xySB17 ?xhSB17 ?xrSB17
  case xhSB17 => exact hHeld
  case xySB17 => exact Or.inl ⟨by rfl, fun W9 hW => by clear hHeld; simp only [List.getElem_toArray, List.getElem_cons_succ, List.getElem_cons_zero]; go_simp⟩
  simp only [Act.put, List.getElem_toArray, List.getElem_cons_succ, List.getElem_cons_zero, List.setIfInBounds_toArray, List.set_cons_succ, List.set_cons_zero]
  refine wpAnyH_take (i := 19) (v := (.bool true)) rfl (by kernel_rfl) (by kernel_rfl) (by kernel_rfl) (fun _ _ _ h => (show False from h).elim) ?xySB18 ?xhSB18 ?xrSB18
  case xhSB18 => exact hHeld
  case xySB18 => exact Or.inl ⟨by rfl, fun W9 hW => by clear hHeld; simp only [List.getElem_toArray, List.getElem_cons_succ, List.getElem_cons_zero]; go_simp⟩
  simp only [Act.put, List.getElem_toArray, List.getElem_cons_succ, List.getElem_cons_zero, List.setIfInBounds_toArray, List.set_cons_succ, List.set_cons_zero]
  refine wpAnyH_take (i := 20) (v := (.bool true)) rfl (by kernel_rfl) (by kernel_rfl) (by kernel_rfl) (fun _ _ _ h => (show False from h).elim) ?xySB19 ?xhSB19 ?xrSB19
  case xhSB19 => exact hHeld
  case xySB19 => exact Or.inl ⟨by rfl, fun W9 hW => by clear hHeld; simp only [List.getElem_toArray, List.getElem_cons_succ, List.getElem_cons_zero]; go_simp⟩
  simp only [Act.put, List.getElem_toArray, List.getElem_cons_succ, List.getElem_cons_zero, List.setIfInBounds_toArray, List.set_cons_succ, List.set_cons_zero]
  refine wpAnyH_take (i := 21) (v := (.pointer (some ⟨ln, 0, none⟩))) rfl (by kernel_rfl) (by kernel_rfl) (by kernel_rfl) (fun _ _ _ h => (show False from h).elim) ?xySB20 ?xhSB20 ?xrSB20
  case xhSB20 => exact hHeld
  case xySB20 => exact Or.inl ⟨by rfl, fun W9 hW => by clear hHeld; simp only [List.getElem_toArray, List.getElem_cons_succ, List.getElem_cons_zero]; go_simp⟩
  simp only [Act.put, List.getElem_toArray, List.getElem_cons_succ, List.getElem_cons_zero, List.setIfInBounds_toArray, List.set_cons_succ, List.set_cons_zero]
  refine wpAnyH_take (i := 23) (v := (.slice xo8 al xc8)) rfl (by kernel_rfl) (by kernel_rfl) (by kernel_rfl) (fun _ _ _ h => (show False from h).elim) ?xySB21 ?xhSB21 ?xrSB21
  case xhSB21 => exact hHeld
  case xySB21 => exact Or.inl ⟨by rfl, fun W9 hW => by have hcB9 := hY _ hW; clear hHeld; simp only [List.getElem_toArray, List.getElem_cons_succ, List.getElem_cons_zero]; go_simp⟩
  simp only [Act.put, List.getElem_toArray, List.getElem_cons_succ, List.getElem_cons_zero, List.setIfInBounds_toArray, List.set_cons_succ, List.set_cons_zero]
  refine wpAnyH_take (i := 24) (v := (.pointer (some ⟨ln, 0, none⟩))) rfl (by kernel_rfl) (by kernel_rfl) (by kernel_rfl) (fun _ _ _ h => (show False from h).elim) ?xySB22 ?xhSB22 ?xrSB22
  case xhSB22 => exact hHeld
  case xySB22 => exact Or.inl ⟨by rfl, fun W9 hW => by clear hHeld; simp only [List.getElem_toArray, List.getElem_cons_succ, List.getElem_cons_zero]; go_simp⟩
  simp only [Act.put, List.getElem_toArray, List.getElem_cons_succ, List.getElem_cons_zero, List.setIfInBounds_toArray, List.set_cons_succ, List.set_cons_zero]
  refine wpAnyH_ready (rs := [22]) (by kernel_rfl) (by simp) ?_
  refine AllReadyH.cons rfl (fun K hK => ?_) AllReadyH.nil
  go_simp
  go_wp2_with (first | (go_at_call 18; refine CRf.out.mono ?_; rintro e wA ⟨y, R', rfl, hy, hR', hbA⟩; have HyB := hid (And.intro (Rown.bss hy) (And.intro hR' (HWf.out.trans (hbA.mono HWf.out.size)))); clear hy hR' hbA; have CXg := hid (CN16.out _ HyB.out.2.2)))
  refine hK.out _ _ (HC.out _ HyB.out.2.2) (fun hHeld => ?_)
  clear hK K
  refine wpAnyH_ready (rs := [25]) (by kernel_rfl) (by simp) ?_
  refine AllReadyH.cons rfl (fun K hK => ?_) AllReadyH.nil
  go_simp
  go_wp2_with (first | (go_at_call 15; refine CXg.out.mono ?_; rintro e w9''' ⟨rfl, m11, rfl⟩; have HWh := hid (HWm.out _ m11 HyB.out.2.2); have HyC := hid (HyB.out.1.old (w' := wA.drewN m11) ⟨rfl, rfl, rfl, Nat.le_refl _, fun _ _ => rfl⟩)))
  refine hK.out _ _ (HC.out _ HWh.out) (fun hHeld => ?_)
  clear hK K
  generalize wA.drewN m11 = Wh at *
  refine wpAnyH_take (i := 26) (v := (.slice zo k zc)) rfl (by kernel_rfl) (by kernel_rfl) (by kernel_rfl) (fun _ _ _ h => (show False from h).elim) ?xySB23 ?xhSB23 ?xrSB23
  case xhSB23 => exact hHeld
  case xySB23 => exact Or.inl ⟨by rfl, fun W9 hW => by clear hHeld; simp only [List.getElem_toArray, List.getElem_cons_succ, List.getElem_cons_zero]; go_simp⟩
  simp only [Act.put, List.getElem_toArray, List.getElem_cons_succ, List.getElem_cons_zero, List.setIfInBounds_toArray, List.set_cons_succ, List.set_cons_zero]
  refine wpAnyH_ready (rs := [27]) (by kernel_rfl) (by simp) ?_
  refine AllReadyH.cons rfl (fun K hK => ?_) AllReadyH.nil
  go_simp
  go_wp2_with (first | (go_at_call 17; refine (CSm.out _ _ _ HyC.out HyB.out.2.1 HWh.out).mono ?_; rintro e wB ⟨rfl, hbB⟩; have HBB : Hid (Below w16.heap.size w16 wB) := HWh.out.trans (hbB.mono HWh.out.size); clear hbB))
  refine hK.out _ _ (HC.out _ HBB.out) (fun hHeld => ?_)
  clear hK K
  refine wpAnyH_take (i := 28) (v := (.bool true)) rfl (by kernel_rfl) (by kernel_rfl) (by kernel_rfl) (fun _ _ _ h => (show False from h).elim) ?xySB24 ?xhSB24 ?xrSB24
  case xhSB24 => exact hHeld
  case xySB24 => exact Or.inl ⟨by rfl, fun W9 hW => by clear hHeld; simp only [List.getElem_toArray, List.getElem_cons_succ, List.getElem_cons_zero]; go_simp⟩
  simp only [Act.put, List.getElem_toArray, List.getElem_cons_succ, List.getElem_cons_zero, List.setIfInBounds_toArray, List.set_cons_succ, List.set_cons_zero]
  refine wpAnyH_take (i := 29) (v := (.bool true)) rfl (by kernel_rfl) (by kernel_rfl) (by kernel_rfl) (fun _ _ _ h => (show False from h).elim) ?xySB25 ?xhSB25 ?xrSB25
  case xhSB25 => exact hHeld
  case xySB25 => exact Or.inl ⟨by rfl, fun W9 hW => by clear hHeld; simp only [List.getElem_toArray, List.getElem_cons_succ, List.getElem_cons_zero]; go_simp⟩
  simp only [Act.put, List.getElem_toArray, List.getElem_cons_succ, List.getElem_cons_zero, List.setIfInBounds_toArray, List.set_cons_succ, List.set_cons_zero]
  refine wpAnyH_done (by kernel_rfl) ?_ _
  refine NoPanic.normal ?_
  have HBE := HF16.out.old HBB.out
  go_wp2_with fail
  go_ret
  exact ⟨rfl, HBE.below⟩

theorem walk {H : Type} {enc : TypeId × Value → H} {base : Nat} {d0 d1 d2 : DataW H} {p0 p1 p2 : List MemPlace} (v0 v1 v2 : Value) (w : World)
    (k0 : Value.okWide Tryd.prog w .any base 22 v0) (t0 : DataW.Trod enc Tryd.prog w 0 (fun _ => true) true 22 v0 d0 p0)
    (k1 : Value.okWide Tryd.prog w .any base 22 v1) (t1 : DataW.Trod enc Tryd.prog w 0 (fun _ => true) true 22 v1 d1 p1)
    (k2 : Value.okWide Tryd.prog w .any base 23 v2) (t2 : DataW.Trod enc Tryd.prog w 0 (fun _ => true) true 23 v2 d2 p2) :
    Calls Tryd.prog 3 #[v0, v1, v2] w (AnsP w (.bool true)) := by
  obtain ⟨a0, n0, c0, rfl⟩ := WideShapes.okWide_slice Tryd.underlying22 k0
  obtain ⟨a1, n1, c1, rfl⟩ := WideShapes.okWide_slice Tryd.underlying22 k1
  obtain ⟨a2, n2, c2, rfl⟩ := WideShapes.okWide_slice Tryd.underlying23 k2
  obtain ⟨RI, hn0, hI⟩ := bss_open t0
  obtain ⟨RJ, hn1, hJ⟩ := bss_open t1
  obtain ⟨ks, hn2, hK⟩ := ri_open t2
  exact walk0 a0 a1 a2 n0 n1 n2 c0 c1 c2 RI RJ ks w hn0.symm hn1.symm hI hJ hK
end Go.Proofs.YtcbbklbjfknnlaaDoor.walSafe
