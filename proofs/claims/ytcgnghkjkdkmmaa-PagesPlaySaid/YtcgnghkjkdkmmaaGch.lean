/-
  PAGES: change.
-/
import Derived.Deep.RegionWith
import Derived.Test.YtcgnghkjkdkmmaaGh
set_option linter.unusedVariables false
namespace Go.Proofs.Ytcgnghkjkdkmmaa
open Go.RowKit Go.Shelf

def ChgA (base mb : Nat) (v : Value) (G : List Pg) (ML' : List (List Lp)) (w : World) (e : Ending) (w' : World) : Prop :=
  ∃ v' G' r, e = .returned r ∧ Mp base w' mb v' G' ∧ mls G' = ML' ∧ Keep (MX mb v) w w' ∧ (∀ k, v'.ownBlock = some k → v.ownBlock = some k ∨ w.heap.size ≤ k) ∧ (∀ g ∈ G', g ∈ G ∨ ∀ a, g.a = some a → w.heap.size ≤ a.block)

theorem rws_made (W : World) (t : TypeId) (vs : List Value) (h1 : ∀ u ∈ vs, u.oneCell' = true) (hl : vs.length ≤ maxLen) : Rws 1 (W.alloc (.cells vs.toArray t)) (.slice (some ⟨W.heap.size, 0, none⟩) vs.length vs.length) (vs.map fun u => [u]) := by
  refine ⟨some ⟨W.heap.size, 0, none⟩, vs.length, by rw [List.length_map], by rw [List.length_map]; exact Nat.le_refl _, hl, (fun h => by cases h), fun r hr => ?_, fun a ha j u hu => ?_⟩
  · obtain ⟨u, hu, rfl⟩ := List.mem_map.1 hr
    exact ⟨rfl, fun x hx => by simp at hx; subst hx; exact h1 _ hu⟩
  · cases ha
    rw [flat_one] at hu
    rw [WideShapes.add_plain, Nat.zero_add, cell_of_row _ W.heap.size j _ t (0, 0) (heap_alloc_new W _)]
    simpa using hu

/-- A list of its own of pairs. -/
def ConcR (L : List Lp) (W : World) (e : Ending) (w' : World) : Prop := ∃ ao n c, n = L.length ∧ e = .returned (.slice ao n c) ∧ w'.ownsRow W.heap.size 31 3 (.slice ao n c) L.length (L.map rowP).flatten ∧ Below W.heap.size W w'

theorem conc_any (W : World) (YS : List (Value × List Lp)) (h : ∀ y ∈ YS, Prs W y.1 y.2) (hn : YS.length ≤ 1000) (hl : (YS.map (·.2)).flatten.length ≤ 100000) :
    Calls Try.prog 43 #[.slice (some ⟨W.heap.size, 0, none⟩) YS.length YS.length] (W.alloc (.cells (YS.map (·.1)).toArray 29)) (ConcR (YS.map (·.2)).flatten W) := by
  have hb : Below W.heap.size W (W.alloc (.cells (YS.map (·.1)).toArray 29)) := (Below.refl _ _).alloc (Nat.le_refl _) _
  have e2 : catA (YS.map fun y => (y.1, y.2.map rowP)) = (YS.map (·.2)).flatten.map rowP := by
    unfold catA
    rw [List.map_map, List.map_flatten, List.map_map]
    rfl
  have ho := rws_made W 29 (YS.map (·.1)) (fun u hu => by
    obtain ⟨y, hy, rfl⟩ := List.mem_map.1 hu
    obtain ⟨_, _, e, _⟩ := (h y hy).form
    rw [e]; rfl) (by rw [List.length_map]; unfold maxLen; omega)
  rw [List.length_map] at ho
  have hc : Cats 3 (W.alloc (.cells (YS.map (·.1)).toArray 29)) (.slice (some ⟨W.heap.size, 0, none⟩) YS.length YS.length) (YS.map fun y => (y.1, y.2.map rowP)) := by
    refine ⟨?_, ?_⟩
    · have e1 : (YS.map fun y => (y.1, y.2.map rowP)).map (fun y => [y.1]) = (YS.map (·.1)).map fun u => [u] := by rw [List.map_map, List.map_map]; rfl
      rw [e1]; exact ho
    · intro y hy
      obtain ⟨q, hq, rfl⟩ := List.mem_map.1 hy
      exact ((h q hq).old hb).1
  refine (concatP_any _ _ _ hc (by rw [e2, List.length_map]; exact hl) (by rw [List.length_map]; omega)).mono ?_
  rintro e w' ⟨x, rfl, h1, h2⟩
  rw [e2, List.length_map] at h1
  have h1' : w'.ownsRow W.heap.size 31 3 x ((YS.map (·.2)).flatten).length (((YS.map (·.2)).flatten).map rowP).flatten := ownsRow_base h1 (by simp)
  obtain ⟨ao, c, rfl⟩ : ∃ ao c, x = .slice ao ((YS.map (·.2)).flatten).length c := by
    rcases h1'.2 with ⟨rfl, h0⟩ | ⟨g, cap, _, rfl, _⟩
    · exact ⟨none, 0, by rw [h0]⟩
    · exact ⟨_, _, rfl⟩
  exact ⟨ao, _, c, rfl, rfl, h1', chain hb h2⟩

theorem one_set {w : World} {b : Nat} {u x : Value} {t : TypeId} (h : w.heap[b]? = some (.cells #[u] t (0, 0))) : (w.setCell ⟨b, 0, none⟩ x).heap[b]? = some (.cells #[x] t (0, 0)) := by
  have hlt := lt_of_block h
  have h' : w.heap[b] = .cells #[u] t (0, 0) := by simpa [Array.getElem?_eq_getElem hlt] using h
  show (w.heap.modify b _)[b]? = _
  rw [Array.getElem?_eq_getElem (by simpa using hlt), Array.getElem_modify_self, h']
  rfl

theorem mem_mls {G : List Pg} {m : Lp} (h : m ∈ (mls G).flatten) : ∃ g ∈ G, m ∈ g.M := by
  obtain ⟨M, hM, hm⟩ := List.mem_flatten.1 h
  obtain ⟨g, hg, rfl⟩ := List.mem_map.1 hM
  exact ⟨g, hg, hm⟩

theorem ML_mem {ML : List (List Lp)} {p : Nat} {m : Lp} (h : m ∈ pgAt ML p) : m ∈ ML.flatten := by
  unfold pgAt at h
  cases hq : ML[p]? with
  | none => rw [hq] at h; cases h
  | some g => rw [hq] at h; exact List.mem_flatten.2 ⟨g, List.mem_of_getElem? hq, h⟩

/-- What a change comes to, when the new list has been laid into the map. -/
theorem chg_fin {base mb : Nat} {v r : Value} {G T : List Pg} {f E : Nat} {ML' : List (List Lp)} {w wl wr : World} (HM : Mp base w mb v G) (hb : Below w.heap.size w wl)
    (hT : ∀ g ∈ T, RdG wl g) (hTn : ∀ g ∈ T, ∀ a, g.a = some a → w.heap.size ≤ a.block) (hTo : ∀ g ∈ T, ∀ m ∈ g.M, OffP (MX mb v) m)
    (ho : wr.ownsRow base 29 1 r (((G.map sv).take f ++ T.map sv) ++ (G.map sv).drop E).length (((G.map sv).take f ++ T.map sv) ++ (G.map sv).drop E)) (hg : wl.grownBy wr v.ownBlock) (hnw : ∀ k, r.ownBlock = some k → v.ownBlock = some k ∨ wl.heap.size ≤ k)
    (hml : mls (G.take f ++ T ++ G.drop E) = ML') : ∃ v' G', Mp base (wr.setCell ⟨mb, 0, none⟩ r) mb v' G' ∧ mls G' = ML' ∧ Keep (MX mb v) w (wr.setCell ⟨mb, 0, none⟩ r) ∧ (∀ k, v'.ownBlock = some k → v.ownBlock = some k ∨ w.heap.size ≤ k) ∧ (∀ g ∈ G', g ∈ G ∨ ∀ a, g.a = some a → w.heap.size ≤ a.block) := by
  have hmlt := lt_of_block HM.hd
  have hvlt : ∀ k, v.ownBlock = some k → k < w.heap.size := fun k hk => (HM.own.lt k hk).2
  have e1 : ((G.map sv).take f ++ T.map sv) ++ (G.map sv).drop E = (G.take f ++ T ++ G.drop E).map sv := by simp
  rw [e1, List.length_map] at ho
  have hrne : ∀ k, r.ownBlock = some k → k ≠ mb := fun k hk e => by
    rcases hnw k hk with h | h
    · exact HM.ne (by rw [h, e])
    · have := hb.size; omega
  have hmem : ∀ g ∈ G.take f ++ T ++ G.drop E, g ∈ G ∨ g ∈ T := fun g hg => by
    rw [List.mem_append, List.mem_append] at hg
    rcases hg with (h | h) | h
    · exact .inl (List.mem_of_mem_take h)
    · exact .inr h
    · exact .inl (List.mem_of_mem_drop h)
  have hoff : ∀ g ∈ G.take f ++ T ++ G.drop E, RdG wl g ∧ OffG (MX mb v) g := fun g hg => by
    rcases hmem g hg with h | h
    · exact ⟨(HM.each g h).old hb, HM.off g h⟩
    · refine ⟨hT g h, fun _ a ha hx => ?_, hTo g h⟩
      have := hTn g h a ha
      rcases hx with e | e
      · omega
      · have := hvlt _ e; omega
  have hkr : Keep (MX mb v) wl wr := Keep.of_grown hg (fun k hk => .inr hk)
  have hks : Keep (MX mb v) wr (wr.setCell ⟨mb, 0, none⟩ r) := Keep.of_grown (grown_set wr ⟨mb, 0, none⟩ r) (fun k hk => by cases hk; exact .inl rfl)
  have hmd : wr.heap[mb]? = some (.cells #[v] 65 (0, 0)) := heap_kept hg ((hb.block mb hmlt).trans HM.hd) (fun e => HM.ne e.symm)
  refine ⟨r, G.take f ++ T ++ G.drop E, ⟨HM.lo, one_set hmd, own_set ho (a := ⟨mb, 0, none⟩) hrne r, fun e => hrne mb e rfl, fun g hg => ((hoff g hg).1.keep hkr (hoff g hg).2).keep hks (hoff g hg).2, fun g hg => ?_⟩, hml, ((Keep.of_below hb).trans hkr).trans hks, fun k hk => (hnw k hk).imp id (fun h => by have := hb.size; omega), fun g hg => (hmem g hg).imp id (fun h => hTn g h)⟩
  refine ((hoff g hg).2.or ((hoff g hg).1.offnew (X := fun k => wl.heap.size ≤ k) (fun k hk => hk))).mono fun k hk => ?_
  rcases hk with e | e
  · exact .inl (.inl e)
  · exact (hnw k e).imp (fun h => .inr h) id

theorem drew_below {w w' : World} (h : Below w.heap.size w w') : Below w.drew.heap.size w.drew w' := ⟨h.os, h.tape, h.output, h.size, h.block⟩
theorem below_of_drew {w w' : World} (h : Below w.drew.heap.size w.drew w') : Below w.heap.size w w' := ⟨h.os, h.tape, h.output, h.size, h.block⟩
theorem cell_old {w w' : World} {b : Nat} {u : Value} {t : TypeId} (h : w.heap[b]? = some (.cells #[u] t (0, 0))) (hb : Below w.heap.size w w') : w'.cell? ⟨b, 0, none⟩ = some u := by
  simp [World.cell?, (hb.block b (lt_of_block h)).trans h]
theorem heap_rep {w wl wr : World} {b : Nat} {u v : Value} {t : TypeId} (h : w.heap[b]? = some (.cells #[u] t (0, 0))) (hb : Below w.heap.size w wl) (hne : v.ownBlock ≠ some b) (hg : wl.grownBy wr v.ownBlock) : wr.heap[b]? = some (.cells #[u] t (0, 0)) :=
  heap_kept hg ((hb.block b (lt_of_block h)).trans h) (fun e => hne e.symm)
theorem cell_rep {w wl wr : World} {b : Nat} {u v : Value} {t : TypeId} (h : w.heap[b]? = some (.cells #[u] t (0, 0))) (hb : Below w.heap.size w wl) (hne : v.ownBlock ≠ some b) (hg : wl.grownBy wr v.ownBlock) : wr.cell? ⟨b, 0, none⟩ = some u := by
  simp [World.cell?, heap_rep h hb hne hg]
theorem froz_rep {w wl wr : World} {b : Nat} {u v : Value} {t : TypeId} (h : w.heap[b]? = some (.cells #[u] t (0, 0))) (hb : Below w.heap.size w wl) (hne : v.ownBlock ≠ some b) (hg : wl.grownBy wr v.ownBlock) : wr.frozen? ⟨b, 0, none⟩ = false := by
  simp [World.frozen?, heap_rep h hb hne hg]

theorem own_slice {w : World} {base : Nat} {e : TypeId} {size : Nat} {r : Value} {n : Nat} {L : List Value} (h : w.ownsRow base e size r n L) : ∃ ro rn rc, r = .slice ro rn rc := by
  rcases h.2 with ⟨rfl, _⟩ | ⟨g, cap, _, rfl, _⟩
  · exact ⟨_, _, _, rfl⟩
  · exact ⟨_, _, _, rfl⟩

theorem laid_len {α : Type} (L : List α) : (laidL L).length ≤ 2 ∧ (0 < L.length → 0 < (laidL L).length) := by
  unfold laidL
  split
  · exact ⟨by simp, fun h => by omega⟩
  · split <;> exact ⟨by simp, fun _ => by simp⟩

theorem vals_of {w : World} {v : Value} {T : List Pg} {w' : World} (h : Fresh w v T w') : Vals w' v (T.map sv) := by
  refine ⟨fun u hu => by obtain ⟨g, _, rfl⟩ := List.mem_map.1 hu; rfl, ?_⟩
  rcases h with ⟨rfl, rfl⟩ | ⟨h0, g2, hg2, rfl, hg⟩
  · exact .inl ⟨rfl, rfl⟩
  · exact .inr ⟨by rw [List.length_map]; exact h0, g2, by rw [List.length_map], hg⟩

set_option maxHeartbeats 8000000 in
set_option maxRecDepth 100000 in
theorem change_any (base mb : Nat) (v : Value) (G : List Pg) (p i p' i' : Nat) (wa : Option Addr) (wc : Nat) (W : List Lp) (w : World) (hM : Mp base w mb v G) (hF : Fit G) (hW : Prs w (.slice wa W.length wc) W) (hWo : ∀ m ∈ W, OffP (MX mb v) m)
    (hpp : p ≤ p') (hp' : p' ≤ G.length) (hi : i ≤ (pgAt (mls G) p).length) (hi' : i' ≤ (pgAt (mls G) p').length) (hl : W.length ≤ 1) (hend : p = G.length → i = 0 ∧ p' = p) (hne : G.length = 0 → 0 < W.length) :
    Calls Try.prog 32 #[.pointer (some ⟨mb, 0, none⟩), spotV p i, spotV p' i', .slice wa W.length wc] w (ChgA base mb v G (changeL (mls G) p i p' i' W) w) := by
  obtain ⟨vo, vc, rfl, hvm⟩ := hM.pgs.form
  have HM := hid hM
  have HW := hid hW
  have hgl := hF.glen
  have hgd := hM.hd
  have HF := hid hF
  have hmlt := lt_of_block hM.hd
  have B2 := ((Below.refl w.heap.size w).alloc (Nat.le_refl _) (.cells #[.int .i64 (p : Int), .int .i64 (i : Int)] 67)).alloc (by simp) (.cells #[.int .i64 (p' : Int), .int .i64 (i' : Int)] 67)
  have h0 : Hid (((w.alloc (.cells #[.int .i64 (p : Int), .int .i64 (i : Int)] 67)).alloc (.cells #[.int .i64 (p' : Int), .int .i64 (i' : Int)] 67)).heap[w.heap.size]? = some (.cells #[.int .i64 (p : Int), .int .i64 (i : Int)] 67 (0, 0))) := (Below.heap_alloc _ _ _ (by simp)).trans (heap_alloc_new _ _)
  have h1 : Hid (((w.alloc (.cells #[.int .i64 (p : Int), .int .i64 (i : Int)] 67)).alloc (.cells #[.int .i64 (p' : Int), .int .i64 (i' : Int)] 67)).heap[w.heap.size + 1]? = some (.cells #[.int .i64 (p' : Int), .int .i64 (i' : Int)] 67 (0, 0))) := heap_alloc2_new _ _ _
  have HB2 := hid B2
  clear hM hW hF B2 hgd
  unfold spotV
  go_enter Try.func32, Try.ntmps32
  go_wp2_with fail
  generalize (w.alloc (.cells #[.int .i64 (p : Int), .int .i64 (i : Int)] 67)).alloc (.cells #[.int .i64 (p' : Int), .int .i64 (i' : Int)] 67) = w2 at *
  have HS : Hid (∀ W', Below w2.heap.size w2 W' → (Hid (Below w2.heap.size w2 W') ∧ W'.cell? ⟨mb, 0, none⟩ = some (.slice vo G.length vc) ∧ W'.cell? ⟨w.heap.size, 0, none⟩ = some (.int .i64 (p : Int)) ∧ W'.cell? ⟨w.heap.size, 1, none⟩ = some (.int .i64 (i : Int)) ∧ W'.cell? ⟨w.heap.size + 1, 0, none⟩ = some (.int .i64 (p' : Int)) ∧ W'.cell? ⟨w.heap.size + 1, 1, none⟩ = some (.int .i64 (i' : Int)))) := fun W' h => by
    obtain ⟨a1, a2, -, -⟩ := two_cells ((h.block _ (lt_of_block h0.out)).trans h0.out)
    obtain ⟨b1, b2, -, -⟩ := two_cells ((h.block _ (lt_of_block h1.out)).trans h1.out)
    have hm : W'.heap[mb]? = some (.cells #[.slice vo G.length vc] 65 (0, 0)) := (h.block _ (Nat.lt_of_lt_of_le hmlt HB2.out.size)).trans ((HB2.out.block mb hmlt).trans HM.out.hd)
    exact ⟨h, by simp [World.cell?, hm], a1, a2, b1, b2⟩
  have hb0 : Below w2.heap.size w2 w2 := Below.refl _ _
  obtain ⟨-, c0, c1, c2, c3, c4⟩ := HS.out _ hb0
  have HGL : Hid (∀ g ∈ G, g.M.length ≤ 1000000) := fun g hg => by have := (HF.out.ok _ (mls_mem hg)).2.1; omega
  have CA : Hid (∀ W', Below w2.heap.size w2 W' → Calls Try.prog 44 #[.slice vo G.length vc, .agg #[.int .i64 (p : Int), .int .i64 (i : Int)]] W' (fun e w' => ∃ aa na ca, e = .returned (.slice aa na ca) ∧ Prs W' (.slice aa na ca) ((pgAt (mls G) p).take i) ∧ Below W'.heap.size W' w')) := fun W' h => (ahead_any _ G p i W' (HM.out.pgs.old (HB2.out.trans (h.mono HB2.out.size))) (by omega) hi HGL.out (by omega)).mono fun e w' ⟨x, h1, h2, h3⟩ => by obtain ⟨aa, ca, rfl, -⟩ := h2.form; exact ⟨aa, _, ca, h1, h2, h3⟩
  have CB : Hid (∀ W', Below w2.heap.size w2 W' → Calls Try.prog 45 #[.slice vo G.length vc, .agg #[.int .i64 (p' : Int), .int .i64 (i' : Int)]] W' (fun e w' => ∃ aa na ca, e = .returned (.slice aa na ca) ∧ Prs W' (.slice aa na ca) ((pgAt (mls G) p').drop i') ∧ Below W'.heap.size W' w')) := fun W' h => (behind_any _ G p' i' W' (HM.out.pgs.old (HB2.out.trans (h.mono HB2.out.size))) hp' hi' HGL.out (by omega)).mono fun e w' ⟨x, h1, h2, h3⟩ => by obtain ⟨aa, ca, rfl, -⟩ := h2.form; exact ⟨aa, _, ca, h1, h2, h3⟩
  have hhl : (headL (mls G) p i p' i' W).length ≤ 17 := by
    have q1 := HF.out.page p
    have q2 := HF.out.page p'
    unfold headL
    rw [List.length_append, List.length_append, List.length_take, List.length_drop]
    omega
  have HHL := hid hhl
  have C3 : Hid (∀ W' xa ca xb cb La Lb, Below w2.heap.size w2 W' → Prs W' (.slice xa La ca) ((pgAt (mls G) p).take i) → Prs W' (.slice xb Lb cb) ((pgAt (mls G) p').drop i') → Calls Try.prog 43 #[.slice (some ⟨W'.heap.size, 0, none⟩) 3 3] (W'.alloc (.cells #[.slice xa La ca, .slice wa W.length wc, .slice xb Lb cb] 29))
      (ConcR (headL (mls G) p i p' i' W) W')) := fun W' xa ca xb cb La Lb hb ha hb' => by
    have e : headL (mls G) p i p' i' W = ([(Value.slice xa La ca, (pgAt (mls G) p).take i), (Value.slice wa W.length wc, W), (Value.slice xb Lb cb, (pgAt (mls G) p').drop i')].map (·.2)).flatten := by unfold headL; simp
    rw [e]
    exact conc_any W' [(Value.slice xa La ca, (pgAt (mls G) p).take i), (Value.slice wa W.length wc, W), (Value.slice xb Lb cb, (pgAt (mls G) p').drop i')] (fun y hy => by
      simp only [List.mem_cons, List.not_mem_nil, or_false] at hy
      rcases hy with rfl | rfl | rfl
      · exact ha
      · exact HW.out.old (HB2.out.trans (hb.mono HB2.out.size))
      · exact hb') (by simp) (by rw [← e]; have := HHL.out; omega)
  clear hhl
  go_region_held3 (fun W' => Hid (Below w2.heap.size w2 W') ∧ W'.cell? ⟨mb, 0, none⟩ = some (.slice vo G.length vc) ∧ W'.cell? ⟨w.heap.size, 0, none⟩ = some (.int .i64 (p : Int)) ∧ W'.cell? ⟨w.heap.size, 1, none⟩ = some (.int .i64 (i : Int)) ∧ W'.cell? ⟨w.heap.size + 1, 0, none⟩ = some (.int .i64 (p' : Int)) ∧ W'.cell? ⟨w.heap.size + 1, 1, none⟩ = some (.int .i64 (i' : Int)))
    (first | (go_split_ands; first | exact HS.out _ (Hid.out (by assumption)) | exact HS.out _ (Below.drew (Below.refl _ _)) | exact HS.out _ (chain (by assumption : Hid (Below _ w2 _)).out (by assumption)) | exact HS.out _ ((by assumption : Hid (Below _ w2 _)).out.alloc (by assumption : Hid (Below _ w2 _)).out.size _)) | go_keep)
    (first
      | (go_at_call 44; go_split_ands; refine (CA.out _ (by assumption : Hid (Below _ w2 _)).out).mono ?_; rintro e wx ⟨aa, na, ca, rfl, hra, hba⟩; have HRA := hid hra; clear hra)
      | (go_at_call 45; go_split_ands; have HPRE := (by assumption : Hid (Below _ w2 _)); refine (CB.out _ HPRE.out).mono ?_; rintro e wy ⟨ab, nb, cb, rfl, hrb, hbb⟩; have HBY := hid (chain HPRE.out hbb); clear HPRE; have HRB := hid (hrb.old hbb); have HRA2 := hid ((HRA.out.old hba).old hbb); clear hrb)
      | (go_at_call 43; go_split_ands; refine (C3.out _ _ _ _ _ _ _ HBY.out HRA2.out HRB.out).mono ?_; rintro e wz ⟨ac, nc, cc, hnc, rfl, hoc, hbc⟩; have HOC := hid hoc; have HNC := hid hnc; have HBZ := hid (chain HBY.out hbc); clear hoc hnc))
  have hb9 := HBZ.out
  clear c0 c1 c2 c3 c4 hb0
  rename_i hHeld
  clear hHeld
  obtain ⟨-, c0, c1, c2, c3, c4⟩ := HS.out _ hb9
  clear hb9
  obtain ⟨e, he⟩ : ∃ e, e = p' + 1 := ⟨_, rfl⟩
  have hw1 : IntKind.i64.wrap ((p' : Int) + 1) = (e : Int) := by rw [IntKind.wrap_i64]; omega
  have HBZW := hid (HB2.out.trans (HBZ.out.mono HB2.out.size))
  have HLo : Hid (∀ a, ac = some a → w.heap.size ≤ a.block) := fun a ha => by
    subst ha
    have := (HOC.out.lt a.block rfl).1
    have := HBY.out.size
    have := HB2.out.size
    omega
  have HLp : Hid (Prs wz (.slice ac nc cc) (headL (mls G) p i p' i' W)) := Prs.own HOC.out (fun m hm => by
    unfold headL at hm
    rw [List.mem_append, List.mem_append] at hm
    rcases hm with (h | h) | h
    · obtain ⟨g, hg, hmg⟩ := mem_mls (ML_mem (List.mem_of_mem_take h))
      exact ((HM.out.each g hg).2 m hmg).old HBZW.out
    · exact (HW.out.2 m h).old HBZW.out
    · obtain ⟨g, hg, hmg⟩ := mem_mls (ML_mem (List.mem_of_mem_drop h))
      exact ((HM.out.each g hg).2 m hmg).old HBZW.out)
  have HOf : Hid (∀ m ∈ headL (mls G) p i p' i' W, OffP (MX mb (.slice vo G.length vc)) m) := fun m hm => by
    unfold headL at hm
    rw [List.mem_append, List.mem_append] at hm
    rcases hm with (h | h) | h
    · obtain ⟨g, hg, hmg⟩ := mem_mls (ML_mem (List.mem_of_mem_take h))
      exact (HM.out.off g hg).2 m hmg
    · exact hWo m h
    · obtain ⟨g, hg, hmg⟩ := mem_mls (ML_mem (List.mem_of_mem_drop h))
      exact (HM.out.off g hg).2 m hmg
  -- the end of what is replaced
  by_cases hE : e ≤ G.length
  · have hE' : (p' : Int) + 1 ≤ (G.length : Int) := by omega
    go_wp2_with fail
    go_region
    have HWT : Hid (∀ W', W' = wz.drew → Below wz.heap.size wz W') := fun W' h => by subst h; exact (Below.drew (Below.refl _ _))
    have hwt := HWT.out _ rfl
    generalize wz.drew = wt at *
    have HBw := hid (HBZW.out.trans (hwt.mono HBZW.out.size))
    have HLp := hid (HLp.out.old hwt)
    have c0 : wt.cell? ⟨mb, 0, none⟩ = some (.slice vo G.length vc) := cell_old ((HBZW.out.block mb hmlt).trans HM.out.hd) hwt
    clear hwt
    by_cases h4 : 4 ≤ nc
    · have h4' : (4 : Int) ≤ (nc : Int) := by omega
      have hpn : p < G.length := by
        rcases Nat.lt_or_ge p G.length with h | h
        · exact h
        · have hpe : p = G.length := by omega
          obtain ⟨hi0, hpp0⟩ := hend hpe
          have hz : (headL (mls G) p i p' i' W).length = W.length := by
            unfold headL
            rw [pgAt_ge (by rw [mls_len]; omega), pgAt_ge (p := p') (by rw [mls_len]; omega)]
            simp
          have := HNC.out
          omega
      have HML : Hid ((mls G).take p ++ laidL (headL (mls G) p i p' i' W) ++ (mls G).drop e = changeL (mls G) p i p' i' W) := by
        show _ = _; unfold changeL; rw [if_pos (by rw [← HNC.out]; exact h4), mls_len, Nat.min_eq_left (by omega), ← he]
      have HIJ : Hid (p < e ∨ (G.length = 0 ∧ p = 0 ∧ e = 0 ∧ 0 < (headL (mls G) p i p' i' W).length)) := .inl (by omega)
      have HEl : Hid (e ≤ G.length) := (by show _ ≤ _; omega)
      go_wp2_with fail
      have LenL : Hid ((headL (mls G) p i p' i' W).length ≤ 1000) := (by show _ ≤ _; have := HHL.out; omega)
      have CL : Hid (∀ W', W' = wt.drew → Calls Try.prog 47 #[.slice ac nc cc] W' (LaidA (.slice ac nc cc) (headL (mls G) p i p' i' W) W')) := fun W' h => by
        subst h
        have q := (HLp.out : Prs wt (.slice ac nc cc) (headL (mls G) p i p' i' W))
        obtain ⟨_, _, e9, -⟩ := q.form
        simp only [Value.slice.injEq] at e9
        have q2 := q.old (Below.drew (Below.refl wt.heap.size wt))
        rw [e9.2.1] at q2 ⊢
        exact laid_any ac cc (headL (mls G) p i p' i' W) _ q2 (by have := LenL.out; omega)
      have HDone : Hid (∀ (wl wr : World) (T : List Pg) (r : Value), mls T = laidL (headL (mls G) p i p' i' W) → (∀ g ∈ T, RdG wt.drew g) → Below wt.heap.size wt wl → (∀ g ∈ T, ∀ a, g.a = some a → blk (.slice ac nc cc) = some a.block) →
          wr.ownsRow base 29 1 r (((G.map sv).take p ++ T.map sv) ++ (G.map sv).drop e).length (((G.map sv).take p ++ T.map sv) ++ (G.map sv).drop e) → wl.grownBy wr (Value.slice vo G.length vc).ownBlock → (∀ k, r.ownBlock = some k → (Value.slice vo G.length vc).ownBlock = some k ∨ wl.heap.size ≤ k) →
          ∃ v' G', Mp base (wr.setCell ⟨mb, 0, none⟩ r) mb v' G' ∧ mls G' = changeL (mls G) (p) i p' i' W ∧ Keep (MX mb (.slice vo G.length vc)) w (wr.setCell ⟨mb, 0, none⟩ r) ∧ (∀ k, v'.ownBlock = some k → (Value.slice vo G.length vc).ownBlock = some k ∨ w.heap.size ≤ k) ∧ (∀ g ∈ G', g ∈ G ∨ ∀ a, g.a = some a → w.heap.size ≤ a.block)) := fun wl wr T r hT1 hT2 hbl hT3 ho hg hnw =>
        chg_fin HM.out (HBw.out.trans (hbl.mono HBw.out.size)) (fun g hg' => (hT2 g hg').old (drew_below hbl)) (fun g hg' a ha => by obtain ⟨b, hb, e9⟩ := blk_of (hT3 g hg' a ha); rw [← e9]; exact HLo.out b hb) (fun g hg' m hm => HOf.out m (by
          have : m ∈ (mls T).flatten := List.mem_flatten.2 ⟨g.M, mls_mem hg', hm⟩
          rw [hT1, laid_flat] at this
          exact this)) ho hg hnw (by
            rw [show mls (G.take p ++ T ++ G.drop e) = (mls G).take p ++ mls T ++ (mls G).drop e from by simp [mls], hT1]
            exact HML.out)
      have hmd9 : wt.heap[mb]? = some (.cells #[.slice vo G.length vc] 65 (0, 0)) := (HBw.out.block mb hmlt).trans HM.out.hd
      have HMD := hid hmd9
      clear hmd9
      have HSZ : Hid (∀ W', Below wt.heap.size wt W' → w.heap.size ≤ W'.heap.size) := fun W' h => Nat.le_trans HBw.out.size h.size
      have CRep : Hid (∀ (wl : World) (T : List Pg) (tv : Value), Below wt.heap.size wt wl → mls T = laidL (headL (mls G) p i p' i' W) → Fresh wt.drew tv T wl → Calls Try.prog 46 #[.slice vo G.length vc, .int .i64 ((p:Int)), .int .i64 ((p':Int)+1), tv] wl (fun ee w' => ∃ r, ee = .returned r ∧ w'.ownsRow base 29 1 r (((G.map sv).take p ++ T.map sv) ++ (G.map sv).drop e).length (((G.map sv).take p ++ T.map sv) ++ (G.map sv).drop e) ∧ wl.grownBy w' (Value.slice vo G.length vc).ownBlock ∧ ∀ k, r.ownBlock = some k → (Value.slice vo G.length vc).ownBlock = some k ∨ wl.heap.size ≤ k)) := fun wl T tv hbl hT1 hT3 => by
        have hbw := HBw.out.trans (hbl.mono HBw.out.size)
        have hTl : T.length = (laidL (headL (mls G) p i p' i' W)).length := by rw [← hT1, mls_len]
        have hl2 := laid_len (headL (mls G) p i p' i' W)
        have e1 : ((p:Int) : Int) = ((p : Nat) : Int) := by omega
        have e2 : ((p':Int)+1 : Int) = ((e : Nat) : Int) := by omega
        rw [e1, e2]
        refine replace_any base (.slice vo G.length vc) (G.map sv) tv (T.map sv) p e wl (by rw [List.length_map]; exact own_old HM.out.own hbw) (by rw [List.length_map]; omega) (fun u hu => by obtain ⟨g, _, rfl⟩ := List.mem_map.1 hu; rfl)
          (Nat.le_trans HM.out.base_le hbw.size) (by rw [List.length_map]; omega) (vals_of hT3) (fun a ha e9 => ?_) ?_ (by rw [List.length_map]; exact HEl.out)
        · rcases hT3 with ⟨_, e8⟩ | ⟨_, g2, hg2, e8, _⟩
          · rw [e8] at ha; cases ha
          · rw [e8] at ha
            have h7 : g2 = a := by simpa [blk] using ha
            have h8 := (HM.out.own.lt a e9).2
            have h6 := HBw.out.size
            have h5 : wt.drew.heap.size = wt.heap.size := rfl
            omega
        · rw [List.length_map, List.length_map]
          rcases HIJ.out with h | ⟨h1, h2, h3, h4⟩
          · exact .inl h
          · exact .inr ⟨h1, by omega, h3, by have := hl2.2 h4; omega⟩
      go_region_with
        (first
          | (go_at_call 47; refine (CL.out _ rfl).mono ?_; rintro e wl ⟨T, tv, rfl, hT1, hT2, hT3, hbl, hT4⟩; have HT1 := hid hT1; have HT2 := hid hT2; have HT3 := hid hT3; have HBL := hid (below_of_drew hbl); have HT4 := hid hT4; have HszL : Hid (w.heap.size ≤ wl.heap.size) := Nat.le_trans HBw.out.size HBL.out.size; have hcL : wl.cell? ⟨mb, 0, none⟩ = some (.slice vo G.length vc) := cell_old HMD.out HBL.out; clear hT1 hT2 hT3 hbl hT4)
          | (go_at_call 46; refine (CRep.out _ _ _ HBL.out HT1.out HT3.out).mono ?_; rintro e wr ⟨r, rfl, ho, hg, hnw⟩; obtain ⟨ro, rn, rc, rfl⟩ := own_slice ho; have HO := hid ho; have HG := hid hg; have HNW := hid hnw; have HszR : Hid (w.heap.size ≤ wr.heap.size) := Nat.le_trans HszL.out hg.size; have hcR : wr.cell? ⟨mb, 0, none⟩ = some (.slice vo G.length vc) := cell_rep HMD.out HBL.out HM.out.ne hg; have hfR : wr.frozen? ⟨mb, 0, none⟩ = false := froz_rep HMD.out HBL.out HM.out.ne hg; clear ho hg hnw))
      all_goals (go_wp2_with fail)
      all_goals (
        refine bodyPost_ret (results_none rfl _ _ _) rfl ?_
        obtain ⟨v', G', z1, z2, z3, z4, z5⟩ := HDone.out _ _ _ _ HT1.out HT2.out HBL.out HT4.out HO.out HG.out HNW.out
        exact ⟨v', G', _, rfl, z1, z2, z3, z4, z5⟩)
    · have h4' : ¬ (4 : Int) ≤ (nc : Int) := by omega
      by_cases h0 : 0 < p
      · obtain ⟨f, rfl⟩ : ∃ f, p = f + 1 := ⟨p - 1, by omega⟩
        have HML : Hid ((mls G).take f ++ laidL (pgAt (mls G) (f) ++ headL (mls G) (f + 1) i p' i' W) ++ (mls G).drop e = changeL (mls G) (f + 1) i p' i' W) := by
          show _ = _; unfold changeL; rw [if_neg (by rw [← HNC.out]; exact h4), if_pos (by omega), mls_len, Nat.min_eq_left (by omega), ← he, Nat.add_sub_cancel]
        have HIJ : Hid (f < e ∨ (G.length = 0 ∧ f = 0 ∧ e = 0 ∧ 0 < (pgAt (mls G) (f) ++ headL (mls G) (f + 1) i p' i' W).length)) := .inl (by omega)
        have HEl : Hid (e ≤ G.length) := (by show _ ≤ _; omega)
        have hp0 : (0 : Int) < ((f + 1 : Nat) : Int) := by omega
        obtain ⟨g, hgq⟩ : ∃ g, G[f]? = some g := ⟨_, List.getElem?_eq_getElem (by omega)⟩
        have hgS : Prs wt (.slice g.a g.M.length g.c) g.M := (HM.out.each g (List.mem_of_getElem? hgq)).old HBw.out
        obtain ⟨b, off, hvo, d1⟩ := (HM.out.pgs.old HBw.out).get hgq
        subst hvo
        rw [Nat.mul_one] at d1
        have hpg := mls_at hgq
        have C2 : Hid (Calls Try.prog 43 #[.slice (some ⟨wt.heap.size, 0, none⟩) 2 2] (wt.alloc (.cells #[(.slice g.a g.M.length g.c), (.slice ac nc cc)] 29)) (ConcR (pgAt (mls G) (f) ++ headL (mls G) (f + 1) i p' i' W) wt)) := by
          have e9 : pgAt (mls G) (f) ++ headL (mls G) (f + 1) i p' i' W = ([(Value.slice g.a g.M.length g.c, g.M), (Value.slice ac nc cc, headL (mls G) (f + 1) i p' i' W)].map (·.2)).flatten := by rw [hpg]; simp
          show Calls _ _ _ _ _
          rw [e9]
          exact conc_any wt [(Value.slice g.a g.M.length g.c, g.M), (Value.slice ac nc cc, headL (mls G) (f + 1) i p' i' W)] (fun y hy => by
            simp only [List.mem_cons, List.not_mem_nil, or_false] at hy
            rcases hy with rfl | rfl
            · exact hgS
            · exact HLp.out) (by simp) (by rw [← e9, List.length_append]; have := HHL.out; have := HF.out.page (f); omega)
        have HPG := hid hpg
        have HGM := hid (List.mem_of_getElem? hgq)
        clear hgS hpg hgq
        go_wp2_with (first | (go_at_call 43; refine C2.out.mono ?_))
        rintro e1 wt2 ⟨ac2, nc2, cc2, hnc2, rfl, hoc2, hbc2⟩
        have HLo : Hid (∀ a, ac2 = some a → w.heap.size ≤ a.block) := fun a ha => by
          subst ha
          have := (hoc2.lt a.block rfl).1
          have := HBw.out.size
          omega
        have HOf : Hid (∀ m ∈ pgAt (mls G) (f) ++ headL (mls G) (f + 1) i p' i' W, OffP (MX mb (.slice (some ⟨b, off, none⟩) G.length vc)) m) := fun m hm => by
          rw [List.mem_append] at hm
          rcases hm with h | h
          · rw [HPG.out] at h; exact (HM.out.off g HGM.out).2 m h
          · exact HOf.out m h
        have HLp : Hid (Prs wt2 (.slice ac2 nc2 cc2) (pgAt (mls G) (f) ++ headL (mls G) (f + 1) i p' i' W)) := Prs.own hoc2 (fun m hm => by
          rw [List.mem_append] at hm
          rcases hm with h | h
          · rw [HPG.out] at h; exact ((HM.out.each g HGM.out).2 m h).old (HBw.out.trans (hbc2.mono HBw.out.size))
          · exact (HLp.out.2 m h).old hbc2)
        have HBw := hid (HBw.out.trans (hbc2.mono HBw.out.size))
        have c0 : wt2.cell? ⟨mb, 0, none⟩ = some (.slice (some ⟨b, off, none⟩) G.length vc) := cell_old ((HBw.out.block mb hmlt).trans HM.out.hd) (Below.refl _ _)
        clear hoc2 hbc2 hnc2 d1
        go_wp2_with fail
        have LenL : Hid ((pgAt (mls G) (f) ++ headL (mls G) (f + 1) i p' i' W).length ≤ 1000) := (by show _ ≤ _; have := HHL.out; have := HF.out.page f; rw [List.length_append]; omega)
        have CL : Hid (∀ W', W' = wt2.drew → Calls Try.prog 47 #[.slice ac2 nc2 cc2] W' (LaidA (.slice ac2 nc2 cc2) (pgAt (mls G) (f) ++ headL (mls G) (f + 1) i p' i' W) W')) := fun W' h => by
          subst h
          have q := (HLp.out : Prs wt2 (.slice ac2 nc2 cc2) (pgAt (mls G) (f) ++ headL (mls G) (f + 1) i p' i' W))
          obtain ⟨_, _, e9, -⟩ := q.form
          simp only [Value.slice.injEq] at e9
          have q2 := q.old (Below.drew (Below.refl wt2.heap.size wt2))
          rw [e9.2.1] at q2 ⊢
          exact laid_any ac2 cc2 (pgAt (mls G) (f) ++ headL (mls G) (f + 1) i p' i' W) _ q2 (by have := LenL.out; omega)
        have HDone : Hid (∀ (wl wr : World) (T : List Pg) (r : Value), mls T = laidL (pgAt (mls G) (f) ++ headL (mls G) (f + 1) i p' i' W) → (∀ g ∈ T, RdG wt2.drew g) → Below wt2.heap.size wt2 wl → (∀ g ∈ T, ∀ a, g.a = some a → blk (.slice ac2 nc2 cc2) = some a.block) →
            wr.ownsRow base 29 1 r (((G.map sv).take f ++ T.map sv) ++ (G.map sv).drop e).length (((G.map sv).take f ++ T.map sv) ++ (G.map sv).drop e) → wl.grownBy wr (Value.slice (some ⟨b, off, none⟩) G.length vc).ownBlock → (∀ k, r.ownBlock = some k → (Value.slice (some ⟨b, off, none⟩) G.length vc).ownBlock = some k ∨ wl.heap.size ≤ k) →
            ∃ v' G', Mp base (wr.setCell ⟨mb, 0, none⟩ r) mb v' G' ∧ mls G' = changeL (mls G) (f + 1) i p' i' W ∧ Keep (MX mb (.slice (some ⟨b, off, none⟩) G.length vc)) w (wr.setCell ⟨mb, 0, none⟩ r) ∧ (∀ k, v'.ownBlock = some k → (Value.slice (some ⟨b, off, none⟩) G.length vc).ownBlock = some k ∨ w.heap.size ≤ k) ∧ (∀ g ∈ G', g ∈ G ∨ ∀ a, g.a = some a → w.heap.size ≤ a.block)) := fun wl wr T r hT1 hT2 hbl hT3 ho hg hnw =>
          chg_fin HM.out (HBw.out.trans (hbl.mono HBw.out.size)) (fun g hg' => (hT2 g hg').old (drew_below hbl)) (fun g hg' a ha => by obtain ⟨b, hb, e9⟩ := blk_of (hT3 g hg' a ha); rw [← e9]; exact HLo.out b hb) (fun g hg' m hm => HOf.out m (by
            have : m ∈ (mls T).flatten := List.mem_flatten.2 ⟨g.M, mls_mem hg', hm⟩
            rw [hT1, laid_flat] at this
            exact this)) ho hg hnw (by
              rw [show mls (G.take f ++ T ++ G.drop e) = (mls G).take f ++ mls T ++ (mls G).drop e from by simp [mls], hT1]
              exact HML.out)
        have hmd9 : wt2.heap[mb]? = some (.cells #[.slice (some ⟨b, off, none⟩) G.length vc] 65 (0, 0)) := (HBw.out.block mb hmlt).trans HM.out.hd
        have HMD := hid hmd9
        clear hmd9
        have HSZ : Hid (∀ W', Below wt2.heap.size wt2 W' → w.heap.size ≤ W'.heap.size) := fun W' h => Nat.le_trans HBw.out.size h.size
        have CRep : Hid (∀ (wl : World) (T : List Pg) (tv : Value), Below wt2.heap.size wt2 wl → mls T = laidL (pgAt (mls G) (f) ++ headL (mls G) (f + 1) i p' i' W) → Fresh wt2.drew tv T wl → Calls Try.prog 46 #[.slice (some ⟨b, off, none⟩) G.length vc, .int .i64 ((f:Int)), .int .i64 ((p':Int)+1), tv] wl (fun ee w' => ∃ r, ee = .returned r ∧ w'.ownsRow base 29 1 r (((G.map sv).take f ++ T.map sv) ++ (G.map sv).drop e).length (((G.map sv).take f ++ T.map sv) ++ (G.map sv).drop e) ∧ wl.grownBy w' (Value.slice (some ⟨b, off, none⟩) G.length vc).ownBlock ∧ ∀ k, r.ownBlock = some k → (Value.slice (some ⟨b, off, none⟩) G.length vc).ownBlock = some k ∨ wl.heap.size ≤ k)) := fun wl T tv hbl hT1 hT3 => by
          have hbw := HBw.out.trans (hbl.mono HBw.out.size)
          have hTl : T.length = (laidL (pgAt (mls G) (f) ++ headL (mls G) (f + 1) i p' i' W)).length := by rw [← hT1, mls_len]
          have hl2 := laid_len (pgAt (mls G) (f) ++ headL (mls G) (f + 1) i p' i' W)
          have e1 : ((f:Int) : Int) = ((f : Nat) : Int) := by omega
          have e2 : ((p':Int)+1 : Int) = ((e : Nat) : Int) := by omega
          rw [e1, e2]
          refine replace_any base (.slice (some ⟨b, off, none⟩) G.length vc) (G.map sv) tv (T.map sv) f e wl (by rw [List.length_map]; exact own_old HM.out.own hbw) (by rw [List.length_map]; omega) (fun u hu => by obtain ⟨g, _, rfl⟩ := List.mem_map.1 hu; rfl)
            (Nat.le_trans HM.out.base_le hbw.size) (by rw [List.length_map]; omega) (vals_of hT3) (fun a ha e9 => ?_) ?_ (by rw [List.length_map]; exact HEl.out)
          · rcases hT3 with ⟨_, e8⟩ | ⟨_, g2, hg2, e8, _⟩
            · rw [e8] at ha; cases ha
            · rw [e8] at ha
              have h7 : g2 = a := by simpa [blk] using ha
              have h8 := (HM.out.own.lt a e9).2
              have h6 := HBw.out.size
              have h5 : wt2.drew.heap.size = wt2.heap.size := rfl
              omega
          · rw [List.length_map, List.length_map]
            rcases HIJ.out with h | ⟨h1, h2, h3, h4⟩
            · exact .inl h
            · exact .inr ⟨h1, by omega, h3, by have := hl2.2 h4; omega⟩
        go_region_with
          (first
            | (go_at_call 47; refine (CL.out _ rfl).mono ?_; rintro e wl ⟨T, tv, rfl, hT1, hT2, hT3, hbl, hT4⟩; have HT1 := hid hT1; have HT2 := hid hT2; have HT3 := hid hT3; have HBL := hid (below_of_drew hbl); have HT4 := hid hT4; have HszL : Hid (w.heap.size ≤ wl.heap.size) := Nat.le_trans HBw.out.size HBL.out.size; have hcL : wl.cell? ⟨mb, 0, none⟩ = some (.slice (some ⟨b, off, none⟩) G.length vc) := cell_old HMD.out HBL.out; clear hT1 hT2 hT3 hbl hT4)
            | (go_at_call 46; refine (CRep.out _ _ _ HBL.out HT1.out HT3.out).mono ?_; rintro e wr ⟨r, rfl, ho, hg, hnw⟩; obtain ⟨ro, rn, rc, rfl⟩ := own_slice ho; have HO := hid ho; have HG := hid hg; have HNW := hid hnw; have HszR : Hid (w.heap.size ≤ wr.heap.size) := Nat.le_trans HszL.out hg.size; have hcR : wr.cell? ⟨mb, 0, none⟩ = some (.slice (some ⟨b, off, none⟩) G.length vc) := cell_rep HMD.out HBL.out HM.out.ne hg; have hfR : wr.frozen? ⟨mb, 0, none⟩ = false := froz_rep HMD.out HBL.out HM.out.ne hg; clear ho hg hnw))
        all_goals (go_wp2_with fail)
        all_goals (
          refine bodyPost_ret (results_none rfl _ _ _) rfl ?_
          obtain ⟨v', G', z1, z2, z3, z4, z5⟩ := HDone.out _ _ _ _ HT1.out HT2.out HBL.out HT4.out HO.out HG.out HNW.out
          exact ⟨v', G', _, rfl, z1, z2, z3, z4, z5⟩)
      · obtain rfl : p = 0 := by omega
        by_cases hen : e < G.length
        · have HML : Hid ((mls G).take 0 ++ laidL (headL (mls G) 0 i p' i' W ++ pgAt (mls G) (p' + 1)) ++ (mls G).drop (p' + 1 + 1) = changeL (mls G) 0 i p' i' W) := by
            show _ = _; unfold changeL; rw [if_neg (by rw [← HNC.out]; exact h4), if_neg (by omega), if_pos (by rw [mls_len]; omega), mls_len, Nat.min_eq_left (by omega)]
          have HIJ : Hid (0 < p' + 1 + 1 ∨ (G.length = 0 ∧ 0 = 0 ∧ p' + 1 + 1 = 0 ∧ 0 < (headL (mls G) 0 i p' i' W ++ pgAt (mls G) (p' + 1)).length)) := .inl (by omega)
          have HEl : Hid (p' + 1 + 1 ≤ G.length) := (by show _ ≤ _; omega)
          have hen' : (p' : Int) + 1 < (G.length : Int) := by omega
          obtain ⟨g, hgq⟩ : ∃ g, G[p' + 1]? = some g := ⟨_, List.getElem?_eq_getElem (by omega)⟩
          have hgS : Prs wt (.slice g.a g.M.length g.c) g.M := (HM.out.each g (List.mem_of_getElem? hgq)).old HBw.out
          obtain ⟨b, off, hvo, d1⟩ := (HM.out.pgs.old HBw.out).get hgq
          subst hvo
          rw [Nat.mul_one] at d1
          have hpg := mls_at hgq
          have C2 : Hid (Calls Try.prog 43 #[.slice (some ⟨wt.heap.size, 0, none⟩) 2 2] (wt.alloc (.cells #[(.slice ac nc cc), (.slice g.a g.M.length g.c)] 29)) (ConcR (headL (mls G) 0 i p' i' W ++ pgAt (mls G) (p' + 1)) wt)) := by
            have e9 : headL (mls G) 0 i p' i' W ++ pgAt (mls G) (p' + 1) = ([(Value.slice ac nc cc, headL (mls G) 0 i p' i' W), (Value.slice g.a g.M.length g.c, g.M)].map (·.2)).flatten := by rw [hpg]; simp
            show Calls _ _ _ _ _
            rw [e9]
            exact conc_any wt [(Value.slice ac nc cc, headL (mls G) 0 i p' i' W), (Value.slice g.a g.M.length g.c, g.M)] (fun y hy => by
              simp only [List.mem_cons, List.not_mem_nil, or_false] at hy
              rcases hy with rfl | rfl
              · exact HLp.out
              · exact hgS) (by simp) (by rw [← e9, List.length_append]; have := HHL.out; have := HF.out.page (p' + 1); omega)
          have HPG := hid hpg
          have HGM := hid (List.mem_of_getElem? hgq)
          clear hgS hpg hgq
          go_wp2_with (first | (go_at_call 43; refine C2.out.mono ?_))
          rintro e1 wt2 ⟨ac2, nc2, cc2, hnc2, rfl, hoc2, hbc2⟩
          have HLo : Hid (∀ a, ac2 = some a → w.heap.size ≤ a.block) := fun a ha => by
            subst ha
            have := (hoc2.lt a.block rfl).1
            have := HBw.out.size
            omega
          have HOf : Hid (∀ m ∈ headL (mls G) 0 i p' i' W ++ pgAt (mls G) (p' + 1), OffP (MX mb (.slice (some ⟨b, off, none⟩) G.length vc)) m) := fun m hm => by
            rw [List.mem_append] at hm
            rcases hm with h | h
            · exact HOf.out m h
            · rw [HPG.out] at h; exact (HM.out.off g HGM.out).2 m h
          have HLp : Hid (Prs wt2 (.slice ac2 nc2 cc2) (headL (mls G) 0 i p' i' W ++ pgAt (mls G) (p' + 1))) := Prs.own hoc2 (fun m hm => by
            rw [List.mem_append] at hm
            rcases hm with h | h
            · exact (HLp.out.2 m h).old hbc2
            · rw [HPG.out] at h; exact ((HM.out.each g HGM.out).2 m h).old (HBw.out.trans (hbc2.mono HBw.out.size)))
          have HBw := hid (HBw.out.trans (hbc2.mono HBw.out.size))
          have c0 : wt2.cell? ⟨mb, 0, none⟩ = some (.slice (some ⟨b, off, none⟩) G.length vc) := cell_old ((HBw.out.block mb hmlt).trans HM.out.hd) (Below.refl _ _)
          clear hoc2 hbc2 hnc2 d1
          go_wp2_with fail
          have LenL : Hid ((headL (mls G) 0 i p' i' W ++ pgAt (mls G) (p' + 1)).length ≤ 1000) := (by show _ ≤ _; have := HHL.out; have := HF.out.page (p' + 1); rw [List.length_append]; omega)
          have CL : Hid (∀ W', W' = wt2.drew → Calls Try.prog 47 #[.slice ac2 nc2 cc2] W' (LaidA (.slice ac2 nc2 cc2) (headL (mls G) 0 i p' i' W ++ pgAt (mls G) (p' + 1)) W')) := fun W' h => by
            subst h
            have q := (HLp.out : Prs wt2 (.slice ac2 nc2 cc2) (headL (mls G) 0 i p' i' W ++ pgAt (mls G) (p' + 1)))
            obtain ⟨_, _, e9, -⟩ := q.form
            simp only [Value.slice.injEq] at e9
            have q2 := q.old (Below.drew (Below.refl wt2.heap.size wt2))
            rw [e9.2.1] at q2 ⊢
            exact laid_any ac2 cc2 (headL (mls G) 0 i p' i' W ++ pgAt (mls G) (p' + 1)) _ q2 (by have := LenL.out; omega)
          have HDone : Hid (∀ (wl wr : World) (T : List Pg) (r : Value), mls T = laidL (headL (mls G) 0 i p' i' W ++ pgAt (mls G) (p' + 1)) → (∀ g ∈ T, RdG wt2.drew g) → Below wt2.heap.size wt2 wl → (∀ g ∈ T, ∀ a, g.a = some a → blk (.slice ac2 nc2 cc2) = some a.block) →
              wr.ownsRow base 29 1 r (((G.map sv).take 0 ++ T.map sv) ++ (G.map sv).drop (p'+1+1)).length (((G.map sv).take 0 ++ T.map sv) ++ (G.map sv).drop (p'+1+1)) → wl.grownBy wr (Value.slice (some ⟨b, off, none⟩) G.length vc).ownBlock → (∀ k, r.ownBlock = some k → (Value.slice (some ⟨b, off, none⟩) G.length vc).ownBlock = some k ∨ wl.heap.size ≤ k) →
              ∃ v' G', Mp base (wr.setCell ⟨mb, 0, none⟩ r) mb v' G' ∧ mls G' = changeL (mls G) (0) i p' i' W ∧ Keep (MX mb (.slice (some ⟨b, off, none⟩) G.length vc)) w (wr.setCell ⟨mb, 0, none⟩ r) ∧ (∀ k, v'.ownBlock = some k → (Value.slice (some ⟨b, off, none⟩) G.length vc).ownBlock = some k ∨ w.heap.size ≤ k) ∧ (∀ g ∈ G', g ∈ G ∨ ∀ a, g.a = some a → w.heap.size ≤ a.block)) := fun wl wr T r hT1 hT2 hbl hT3 ho hg hnw =>
            chg_fin HM.out (HBw.out.trans (hbl.mono HBw.out.size)) (fun g hg' => (hT2 g hg').old (drew_below hbl)) (fun g hg' a ha => by obtain ⟨b, hb, e9⟩ := blk_of (hT3 g hg' a ha); rw [← e9]; exact HLo.out b hb) (fun g hg' m hm => HOf.out m (by
              have : m ∈ (mls T).flatten := List.mem_flatten.2 ⟨g.M, mls_mem hg', hm⟩
              rw [hT1, laid_flat] at this
              exact this)) ho hg hnw (by
                rw [show mls (G.take 0 ++ T ++ G.drop (p'+1+1)) = (mls G).take 0 ++ mls T ++ (mls G).drop (p'+1+1) from by simp [mls], hT1]
                exact HML.out)
          have hmd9 : wt2.heap[mb]? = some (.cells #[.slice (some ⟨b, off, none⟩) G.length vc] 65 (0, 0)) := (HBw.out.block mb hmlt).trans HM.out.hd
          have HMD := hid hmd9
          clear hmd9
          have HSZ : Hid (∀ W', Below wt2.heap.size wt2 W' → w.heap.size ≤ W'.heap.size) := fun W' h => Nat.le_trans HBw.out.size h.size
          have CRep : Hid (∀ (wl : World) (T : List Pg) (tv : Value), Below wt2.heap.size wt2 wl → mls T = laidL (headL (mls G) 0 i p' i' W ++ pgAt (mls G) (p' + 1)) → Fresh wt2.drew tv T wl → Calls Try.prog 46 #[.slice (some ⟨b, off, none⟩) G.length vc, .int .i64 ((0:Int)), .int .i64 ((p':Int)+1+1), tv] wl (fun ee w' => ∃ r, ee = .returned r ∧ w'.ownsRow base 29 1 r (((G.map sv).take 0 ++ T.map sv) ++ (G.map sv).drop (p'+1+1)).length (((G.map sv).take 0 ++ T.map sv) ++ (G.map sv).drop (p'+1+1)) ∧ wl.grownBy w' (Value.slice (some ⟨b, off, none⟩) G.length vc).ownBlock ∧ ∀ k, r.ownBlock = some k → (Value.slice (some ⟨b, off, none⟩) G.length vc).ownBlock = some k ∨ wl.heap.size ≤ k)) := fun wl T tv hbl hT1 hT3 => by
            have hbw := HBw.out.trans (hbl.mono HBw.out.size)
            have hTl : T.length = (laidL (headL (mls G) 0 i p' i' W ++ pgAt (mls G) (p' + 1))).length := by rw [← hT1, mls_len]
            have hl2 := laid_len (headL (mls G) 0 i p' i' W ++ pgAt (mls G) (p' + 1))
            have e1 : ((0:Int) : Int) = ((0 : Nat) : Int) := by omega
            have e2 : ((p':Int)+1+1 : Int) = (((p'+1+1) : Nat) : Int) := by omega
            rw [e1, e2]
            refine replace_any base (.slice (some ⟨b, off, none⟩) G.length vc) (G.map sv) tv (T.map sv) 0 (p'+1+1) wl (by rw [List.length_map]; exact own_old HM.out.own hbw) (by rw [List.length_map]; omega) (fun u hu => by obtain ⟨g, _, rfl⟩ := List.mem_map.1 hu; rfl)
              (Nat.le_trans HM.out.base_le hbw.size) (by rw [List.length_map]; omega) (vals_of hT3) (fun a ha e9 => ?_) ?_ (by rw [List.length_map]; exact HEl.out)
            · rcases hT3 with ⟨_, e8⟩ | ⟨_, g2, hg2, e8, _⟩
              · rw [e8] at ha; cases ha
              · rw [e8] at ha
                have h7 : g2 = a := by simpa [blk] using ha
                have h8 := (HM.out.own.lt a e9).2
                have h6 := HBw.out.size
                have h5 : wt2.drew.heap.size = wt2.heap.size := rfl
                omega
            · rw [List.length_map, List.length_map]
              rcases HIJ.out with h | ⟨h1, h2, h3, h4⟩
              · exact .inl h
              · exact .inr ⟨h1, by omega, h3, by have := hl2.2 h4; omega⟩
          go_region_with
            (first
              | (go_at_call 47; refine (CL.out _ rfl).mono ?_; rintro e wl ⟨T, tv, rfl, hT1, hT2, hT3, hbl, hT4⟩; have HT1 := hid hT1; have HT2 := hid hT2; have HT3 := hid hT3; have HBL := hid (below_of_drew hbl); have HT4 := hid hT4; have HszL : Hid (w.heap.size ≤ wl.heap.size) := Nat.le_trans HBw.out.size HBL.out.size; have hcL : wl.cell? ⟨mb, 0, none⟩ = some (.slice (some ⟨b, off, none⟩) G.length vc) := cell_old HMD.out HBL.out; clear hT1 hT2 hT3 hbl hT4)
              | (go_at_call 46; refine (CRep.out _ _ _ HBL.out HT1.out HT3.out).mono ?_; rintro e wr ⟨r, rfl, ho, hg, hnw⟩; obtain ⟨ro, rn, rc, rfl⟩ := own_slice ho; have HO := hid ho; have HG := hid hg; have HNW := hid hnw; have HszR : Hid (w.heap.size ≤ wr.heap.size) := Nat.le_trans HszL.out hg.size; have hcR : wr.cell? ⟨mb, 0, none⟩ = some (.slice (some ⟨b, off, none⟩) G.length vc) := cell_rep HMD.out HBL.out HM.out.ne hg; have hfR : wr.frozen? ⟨mb, 0, none⟩ = false := froz_rep HMD.out HBL.out HM.out.ne hg; clear ho hg hnw))
          all_goals (go_wp2_with fail)
          all_goals (
            refine bodyPost_ret (results_none rfl _ _ _) rfl ?_
            obtain ⟨v', G', z1, z2, z3, z4, z5⟩ := HDone.out _ _ _ _ HT1.out HT2.out HBL.out HT4.out HO.out HG.out HNW.out
            exact ⟨v', G', _, rfl, z1, z2, z3, z4, z5⟩)
        · have HML : Hid ((mls G).take 0 ++ laidL (headL (mls G) 0 i p' i' W) ++ (mls G).drop e = changeL (mls G) 0 i p' i' W) := by
            show _ = _; unfold changeL; rw [if_neg (by rw [← HNC.out]; exact h4), if_neg (by omega), if_neg (by rw [mls_len]; omega), mls_len, Nat.min_eq_left (by omega), ← he]
          have HIJ : Hid (0 < e ∨ (G.length = 0 ∧ 0 = 0 ∧ e = 0 ∧ 0 < (headL (mls G) 0 i p' i' W).length)) := .inl (by omega)
          have HEl : Hid (e ≤ G.length) := (by show _ ≤ _; omega)
          have hen' : ¬ ((p' : Int) + 1 < (G.length : Int)) := by omega
          go_wp2_with fail
          have LenL : Hid ((headL (mls G) 0 i p' i' W).length ≤ 1000) := (by show _ ≤ _; have := HHL.out; omega)
          have CL : Hid (∀ W', W' = wt.drew → Calls Try.prog 47 #[.slice ac nc cc] W' (LaidA (.slice ac nc cc) (headL (mls G) 0 i p' i' W) W')) := fun W' h => by
            subst h
            have q := (HLp.out : Prs wt (.slice ac nc cc) (headL (mls G) 0 i p' i' W))
            obtain ⟨_, _, e9, -⟩ := q.form
            simp only [Value.slice.injEq] at e9
            have q2 := q.old (Below.drew (Below.refl wt.heap.size wt))
            rw [e9.2.1] at q2 ⊢
            exact laid_any ac cc (headL (mls G) 0 i p' i' W) _ q2 (by have := LenL.out; omega)
          have HDone : Hid (∀ (wl wr : World) (T : List Pg) (r : Value), mls T = laidL (headL (mls G) 0 i p' i' W) → (∀ g ∈ T, RdG wt.drew g) → Below wt.heap.size wt wl → (∀ g ∈ T, ∀ a, g.a = some a → blk (.slice ac nc cc) = some a.block) →
              wr.ownsRow base 29 1 r (((G.map sv).take 0 ++ T.map sv) ++ (G.map sv).drop e).length (((G.map sv).take 0 ++ T.map sv) ++ (G.map sv).drop e) → wl.grownBy wr (Value.slice vo G.length vc).ownBlock → (∀ k, r.ownBlock = some k → (Value.slice vo G.length vc).ownBlock = some k ∨ wl.heap.size ≤ k) →
              ∃ v' G', Mp base (wr.setCell ⟨mb, 0, none⟩ r) mb v' G' ∧ mls G' = changeL (mls G) (0) i p' i' W ∧ Keep (MX mb (.slice vo G.length vc)) w (wr.setCell ⟨mb, 0, none⟩ r) ∧ (∀ k, v'.ownBlock = some k → (Value.slice vo G.length vc).ownBlock = some k ∨ w.heap.size ≤ k) ∧ (∀ g ∈ G', g ∈ G ∨ ∀ a, g.a = some a → w.heap.size ≤ a.block)) := fun wl wr T r hT1 hT2 hbl hT3 ho hg hnw =>
            chg_fin HM.out (HBw.out.trans (hbl.mono HBw.out.size)) (fun g hg' => (hT2 g hg').old (drew_below hbl)) (fun g hg' a ha => by obtain ⟨b, hb, e9⟩ := blk_of (hT3 g hg' a ha); rw [← e9]; exact HLo.out b hb) (fun g hg' m hm => HOf.out m (by
              have : m ∈ (mls T).flatten := List.mem_flatten.2 ⟨g.M, mls_mem hg', hm⟩
              rw [hT1, laid_flat] at this
              exact this)) ho hg hnw (by
                rw [show mls (G.take 0 ++ T ++ G.drop e) = (mls G).take 0 ++ mls T ++ (mls G).drop e from by simp [mls], hT1]
                exact HML.out)
          have hmd9 : wt.heap[mb]? = some (.cells #[.slice vo G.length vc] 65 (0, 0)) := (HBw.out.block mb hmlt).trans HM.out.hd
          have HMD := hid hmd9
          clear hmd9
          have HSZ : Hid (∀ W', Below wt.heap.size wt W' → w.heap.size ≤ W'.heap.size) := fun W' h => Nat.le_trans HBw.out.size h.size
          have CRep : Hid (∀ (wl : World) (T : List Pg) (tv : Value), Below wt.heap.size wt wl → mls T = laidL (headL (mls G) 0 i p' i' W) → Fresh wt.drew tv T wl → Calls Try.prog 46 #[.slice vo G.length vc, .int .i64 ((0:Int)), .int .i64 ((p':Int)+1), tv] wl (fun ee w' => ∃ r, ee = .returned r ∧ w'.ownsRow base 29 1 r (((G.map sv).take 0 ++ T.map sv) ++ (G.map sv).drop e).length (((G.map sv).take 0 ++ T.map sv) ++ (G.map sv).drop e) ∧ wl.grownBy w' (Value.slice vo G.length vc).ownBlock ∧ ∀ k, r.ownBlock = some k → (Value.slice vo G.length vc).ownBlock = some k ∨ wl.heap.size ≤ k)) := fun wl T tv hbl hT1 hT3 => by
            have hbw := HBw.out.trans (hbl.mono HBw.out.size)
            have hTl : T.length = (laidL (headL (mls G) 0 i p' i' W)).length := by rw [← hT1, mls_len]
            have hl2 := laid_len (headL (mls G) 0 i p' i' W)
            have e1 : ((0:Int) : Int) = ((0 : Nat) : Int) := by omega
            have e2 : ((p':Int)+1 : Int) = ((e : Nat) : Int) := by omega
            rw [e1, e2]
            refine replace_any base (.slice vo G.length vc) (G.map sv) tv (T.map sv) 0 e wl (by rw [List.length_map]; exact own_old HM.out.own hbw) (by rw [List.length_map]; omega) (fun u hu => by obtain ⟨g, _, rfl⟩ := List.mem_map.1 hu; rfl)
              (Nat.le_trans HM.out.base_le hbw.size) (by rw [List.length_map]; omega) (vals_of hT3) (fun a ha e9 => ?_) ?_ (by rw [List.length_map]; exact HEl.out)
            · rcases hT3 with ⟨_, e8⟩ | ⟨_, g2, hg2, e8, _⟩
              · rw [e8] at ha; cases ha
              · rw [e8] at ha
                have h7 : g2 = a := by simpa [blk] using ha
                have h8 := (HM.out.own.lt a e9).2
                have h6 := HBw.out.size
                have h5 : wt.drew.heap.size = wt.heap.size := rfl
                omega
            · rw [List.length_map, List.length_map]
              rcases HIJ.out with h | ⟨h1, h2, h3, h4⟩
              · exact .inl h
              · exact .inr ⟨h1, by omega, h3, by have := hl2.2 h4; omega⟩
          go_region_with
            (first
              | (go_at_call 47; refine (CL.out _ rfl).mono ?_; rintro e wl ⟨T, tv, rfl, hT1, hT2, hT3, hbl, hT4⟩; have HT1 := hid hT1; have HT2 := hid hT2; have HT3 := hid hT3; have HBL := hid (below_of_drew hbl); have HT4 := hid hT4; have HszL : Hid (w.heap.size ≤ wl.heap.size) := Nat.le_trans HBw.out.size HBL.out.size; have hcL : wl.cell? ⟨mb, 0, none⟩ = some (.slice vo G.length vc) := cell_old HMD.out HBL.out; clear hT1 hT2 hT3 hbl hT4)
              | (go_at_call 46; refine (CRep.out _ _ _ HBL.out HT1.out HT3.out).mono ?_; rintro e wr ⟨r, rfl, ho, hg, hnw⟩; obtain ⟨ro, rn, rc, rfl⟩ := own_slice ho; have HO := hid ho; have HG := hid hg; have HNW := hid hnw; have HszR : Hid (w.heap.size ≤ wr.heap.size) := Nat.le_trans HszL.out hg.size; have hcR : wr.cell? ⟨mb, 0, none⟩ = some (.slice vo G.length vc) := cell_rep HMD.out HBL.out HM.out.ne hg; have hfR : wr.frozen? ⟨mb, 0, none⟩ = false := froz_rep HMD.out HBL.out HM.out.ne hg; clear ho hg hnw))
          all_goals (go_wp2_with fail)
          all_goals (
            refine bodyPost_ret (results_none rfl _ _ _) rfl ?_
            obtain ⟨v', G', z1, z2, z3, z4, z5⟩ := HDone.out _ _ _ _ HT1.out HT2.out HBL.out HT4.out HO.out HG.out HNW.out
            exact ⟨v', G', _, rfl, z1, z2, z3, z4, z5⟩)
  · have hE' : ¬ (p' : Int) + 1 ≤ (G.length : Int) := by omega
    go_wp2_with fail
    go_region
    have HWT : Hid (∀ W', W' = wz.drew → Below wz.heap.size wz W') := fun W' h => by subst h; exact (Below.drew (Below.refl _ _))
    have hwt := HWT.out _ rfl
    generalize wz.drew = wt at *
    have HBw := hid (HBZW.out.trans (hwt.mono HBZW.out.size))
    have HLp := hid (HLp.out.old hwt)
    have c0 : wt.cell? ⟨mb, 0, none⟩ = some (.slice vo G.length vc) := cell_old ((HBZW.out.block mb hmlt).trans HM.out.hd) hwt
    clear hwt
    by_cases h4 : 4 ≤ nc
    · have h4' : (4 : Int) ≤ (nc : Int) := by omega
      have hpn : p < G.length := by
        rcases Nat.lt_or_ge p G.length with h | h
        · exact h
        · have hpe : p = G.length := by omega
          obtain ⟨hi0, hpp0⟩ := hend hpe
          have hz : (headL (mls G) p i p' i' W).length = W.length := by
            unfold headL
            rw [pgAt_ge (by rw [mls_len]; omega), pgAt_ge (p := p') (by rw [mls_len]; omega)]
            simp
          have := HNC.out
          omega
      have HML : Hid ((mls G).take p ++ laidL (headL (mls G) p i p' i' W) ++ (mls G).drop G.length = changeL (mls G) p i p' i' W) := by
        show _ = _; unfold changeL; rw [if_pos (by rw [← HNC.out]; exact h4), mls_len, Nat.min_eq_right (by omega)]
      have HIJ : Hid (p < G.length ∨ (G.length = 0 ∧ p = 0 ∧ G.length = 0 ∧ 0 < (headL (mls G) p i p' i' W).length)) := .inl (by omega)
      have HEl : Hid (G.length ≤ G.length) := (by show _ ≤ _; omega)
      go_wp2_with fail
      have LenL : Hid ((headL (mls G) p i p' i' W).length ≤ 1000) := (by show _ ≤ _; have := HHL.out; omega)
      have CL : Hid (∀ W', W' = wt.drew → Calls Try.prog 47 #[.slice ac nc cc] W' (LaidA (.slice ac nc cc) (headL (mls G) p i p' i' W) W')) := fun W' h => by
        subst h
        have q := (HLp.out : Prs wt (.slice ac nc cc) (headL (mls G) p i p' i' W))
        obtain ⟨_, _, e9, -⟩ := q.form
        simp only [Value.slice.injEq] at e9
        have q2 := q.old (Below.drew (Below.refl wt.heap.size wt))
        rw [e9.2.1] at q2 ⊢
        exact laid_any ac cc (headL (mls G) p i p' i' W) _ q2 (by have := LenL.out; omega)
      have HDone : Hid (∀ (wl wr : World) (T : List Pg) (r : Value), mls T = laidL (headL (mls G) p i p' i' W) → (∀ g ∈ T, RdG wt.drew g) → Below wt.heap.size wt wl → (∀ g ∈ T, ∀ a, g.a = some a → blk (.slice ac nc cc) = some a.block) →
          wr.ownsRow base 29 1 r (((G.map sv).take p ++ T.map sv) ++ (G.map sv).drop G.length).length (((G.map sv).take p ++ T.map sv) ++ (G.map sv).drop G.length) → wl.grownBy wr (Value.slice vo G.length vc).ownBlock → (∀ k, r.ownBlock = some k → (Value.slice vo G.length vc).ownBlock = some k ∨ wl.heap.size ≤ k) →
          ∃ v' G', Mp base (wr.setCell ⟨mb, 0, none⟩ r) mb v' G' ∧ mls G' = changeL (mls G) (p) i p' i' W ∧ Keep (MX mb (.slice vo G.length vc)) w (wr.setCell ⟨mb, 0, none⟩ r) ∧ (∀ k, v'.ownBlock = some k → (Value.slice vo G.length vc).ownBlock = some k ∨ w.heap.size ≤ k) ∧ (∀ g ∈ G', g ∈ G ∨ ∀ a, g.a = some a → w.heap.size ≤ a.block)) := fun wl wr T r hT1 hT2 hbl hT3 ho hg hnw =>
        chg_fin HM.out (HBw.out.trans (hbl.mono HBw.out.size)) (fun g hg' => (hT2 g hg').old (drew_below hbl)) (fun g hg' a ha => by obtain ⟨b, hb, e9⟩ := blk_of (hT3 g hg' a ha); rw [← e9]; exact HLo.out b hb) (fun g hg' m hm => HOf.out m (by
          have : m ∈ (mls T).flatten := List.mem_flatten.2 ⟨g.M, mls_mem hg', hm⟩
          rw [hT1, laid_flat] at this
          exact this)) ho hg hnw (by
            rw [show mls (G.take p ++ T ++ G.drop G.length) = (mls G).take p ++ mls T ++ (mls G).drop G.length from by simp [mls], hT1]
            exact HML.out)
      have hmd9 : wt.heap[mb]? = some (.cells #[.slice vo G.length vc] 65 (0, 0)) := (HBw.out.block mb hmlt).trans HM.out.hd
      have HMD := hid hmd9
      clear hmd9
      have HSZ : Hid (∀ W', Below wt.heap.size wt W' → w.heap.size ≤ W'.heap.size) := fun W' h => Nat.le_trans HBw.out.size h.size
      have CRep : Hid (∀ (wl : World) (T : List Pg) (tv : Value), Below wt.heap.size wt wl → mls T = laidL (headL (mls G) p i p' i' W) → Fresh wt.drew tv T wl → Calls Try.prog 46 #[.slice vo G.length vc, .int .i64 ((p:Int)), .int .i64 ((G.length:Int)), tv] wl (fun ee w' => ∃ r, ee = .returned r ∧ w'.ownsRow base 29 1 r (((G.map sv).take p ++ T.map sv) ++ (G.map sv).drop G.length).length (((G.map sv).take p ++ T.map sv) ++ (G.map sv).drop G.length) ∧ wl.grownBy w' (Value.slice vo G.length vc).ownBlock ∧ ∀ k, r.ownBlock = some k → (Value.slice vo G.length vc).ownBlock = some k ∨ wl.heap.size ≤ k)) := fun wl T tv hbl hT1 hT3 => by
        have hbw := HBw.out.trans (hbl.mono HBw.out.size)
        have hTl : T.length = (laidL (headL (mls G) p i p' i' W)).length := by rw [← hT1, mls_len]
        have hl2 := laid_len (headL (mls G) p i p' i' W)
        have e1 : ((p:Int) : Int) = ((p : Nat) : Int) := by omega
        have e2 : ((G.length:Int) : Int) = ((G.length : Nat) : Int) := by omega
        rw [e1, e2]
        refine replace_any base (.slice vo G.length vc) (G.map sv) tv (T.map sv) p G.length wl (by rw [List.length_map]; exact own_old HM.out.own hbw) (by rw [List.length_map]; omega) (fun u hu => by obtain ⟨g, _, rfl⟩ := List.mem_map.1 hu; rfl)
          (Nat.le_trans HM.out.base_le hbw.size) (by rw [List.length_map]; omega) (vals_of hT3) (fun a ha e9 => ?_) ?_ (by rw [List.length_map]; exact HEl.out)
        · rcases hT3 with ⟨_, e8⟩ | ⟨_, g2, hg2, e8, _⟩
          · rw [e8] at ha; cases ha
          · rw [e8] at ha
            have h7 : g2 = a := by simpa [blk] using ha
            have h8 := (HM.out.own.lt a e9).2
            have h6 := HBw.out.size
            have h5 : wt.drew.heap.size = wt.heap.size := rfl
            omega
        · rw [List.length_map, List.length_map]
          rcases HIJ.out with h | ⟨h1, h2, h3, h4⟩
          · exact .inl h
          · exact .inr ⟨h1, by omega, h3, by have := hl2.2 h4; omega⟩
      go_region_with
        (first
          | (go_at_call 47; refine (CL.out _ rfl).mono ?_; rintro e wl ⟨T, tv, rfl, hT1, hT2, hT3, hbl, hT4⟩; have HT1 := hid hT1; have HT2 := hid hT2; have HT3 := hid hT3; have HBL := hid (below_of_drew hbl); have HT4 := hid hT4; have HszL : Hid (w.heap.size ≤ wl.heap.size) := Nat.le_trans HBw.out.size HBL.out.size; have hcL : wl.cell? ⟨mb, 0, none⟩ = some (.slice vo G.length vc) := cell_old HMD.out HBL.out; clear hT1 hT2 hT3 hbl hT4)
          | (go_at_call 46; refine (CRep.out _ _ _ HBL.out HT1.out HT3.out).mono ?_; rintro e wr ⟨r, rfl, ho, hg, hnw⟩; obtain ⟨ro, rn, rc, rfl⟩ := own_slice ho; have HO := hid ho; have HG := hid hg; have HNW := hid hnw; have HszR : Hid (w.heap.size ≤ wr.heap.size) := Nat.le_trans HszL.out hg.size; have hcR : wr.cell? ⟨mb, 0, none⟩ = some (.slice vo G.length vc) := cell_rep HMD.out HBL.out HM.out.ne hg; have hfR : wr.frozen? ⟨mb, 0, none⟩ = false := froz_rep HMD.out HBL.out HM.out.ne hg; clear ho hg hnw))
      all_goals (go_wp2_with fail)
      all_goals (
        refine bodyPost_ret (results_none rfl _ _ _) rfl ?_
        obtain ⟨v', G', z1, z2, z3, z4, z5⟩ := HDone.out _ _ _ _ HT1.out HT2.out HBL.out HT4.out HO.out HG.out HNW.out
        exact ⟨v', G', _, rfl, z1, z2, z3, z4, z5⟩)
    · have h4' : ¬ (4 : Int) ≤ (nc : Int) := by omega
      by_cases h0 : 0 < p
      · obtain ⟨f, rfl⟩ : ∃ f, p = f + 1 := ⟨p - 1, by omega⟩
        have HML : Hid ((mls G).take f ++ laidL (pgAt (mls G) (f) ++ headL (mls G) (f + 1) i p' i' W) ++ (mls G).drop G.length = changeL (mls G) (f + 1) i p' i' W) := by
          show _ = _; unfold changeL; rw [if_neg (by rw [← HNC.out]; exact h4), if_pos (by omega), mls_len, Nat.min_eq_right (by omega), Nat.add_sub_cancel]
        have HIJ : Hid (f < G.length ∨ (G.length = 0 ∧ f = 0 ∧ G.length = 0 ∧ 0 < (pgAt (mls G) (f) ++ headL (mls G) (f + 1) i p' i' W).length)) := .inl (by omega)
        have HEl : Hid (G.length ≤ G.length) := (by show _ ≤ _; omega)
        have hp0 : (0 : Int) < ((f + 1 : Nat) : Int) := by omega
        obtain ⟨g, hgq⟩ : ∃ g, G[f]? = some g := ⟨_, List.getElem?_eq_getElem (by omega)⟩
        have hgS : Prs wt (.slice g.a g.M.length g.c) g.M := (HM.out.each g (List.mem_of_getElem? hgq)).old HBw.out
        obtain ⟨b, off, hvo, d1⟩ := (HM.out.pgs.old HBw.out).get hgq
        subst hvo
        rw [Nat.mul_one] at d1
        have hpg := mls_at hgq
        have C2 : Hid (Calls Try.prog 43 #[.slice (some ⟨wt.heap.size, 0, none⟩) 2 2] (wt.alloc (.cells #[(.slice g.a g.M.length g.c), (.slice ac nc cc)] 29)) (ConcR (pgAt (mls G) (f) ++ headL (mls G) (f + 1) i p' i' W) wt)) := by
          have e9 : pgAt (mls G) (f) ++ headL (mls G) (f + 1) i p' i' W = ([(Value.slice g.a g.M.length g.c, g.M), (Value.slice ac nc cc, headL (mls G) (f + 1) i p' i' W)].map (·.2)).flatten := by rw [hpg]; simp
          show Calls _ _ _ _ _
          rw [e9]
          exact conc_any wt [(Value.slice g.a g.M.length g.c, g.M), (Value.slice ac nc cc, headL (mls G) (f + 1) i p' i' W)] (fun y hy => by
            simp only [List.mem_cons, List.not_mem_nil, or_false] at hy
            rcases hy with rfl | rfl
            · exact hgS
            · exact HLp.out) (by simp) (by rw [← e9, List.length_append]; have := HHL.out; have := HF.out.page (f); omega)
        have HPG := hid hpg
        have HGM := hid (List.mem_of_getElem? hgq)
        clear hgS hpg hgq
        go_wp2_with (first | (go_at_call 43; refine C2.out.mono ?_))
        rintro e1 wt2 ⟨ac2, nc2, cc2, hnc2, rfl, hoc2, hbc2⟩
        have HLo : Hid (∀ a, ac2 = some a → w.heap.size ≤ a.block) := fun a ha => by
          subst ha
          have := (hoc2.lt a.block rfl).1
          have := HBw.out.size
          omega
        have HOf : Hid (∀ m ∈ pgAt (mls G) (f) ++ headL (mls G) (f + 1) i p' i' W, OffP (MX mb (.slice (some ⟨b, off, none⟩) G.length vc)) m) := fun m hm => by
          rw [List.mem_append] at hm
          rcases hm with h | h
          · rw [HPG.out] at h; exact (HM.out.off g HGM.out).2 m h
          · exact HOf.out m h
        have HLp : Hid (Prs wt2 (.slice ac2 nc2 cc2) (pgAt (mls G) (f) ++ headL (mls G) (f + 1) i p' i' W)) := Prs.own hoc2 (fun m hm => by
          rw [List.mem_append] at hm
          rcases hm with h | h
          · rw [HPG.out] at h; exact ((HM.out.each g HGM.out).2 m h).old (HBw.out.trans (hbc2.mono HBw.out.size))
          · exact (HLp.out.2 m h).old hbc2)
        have HBw := hid (HBw.out.trans (hbc2.mono HBw.out.size))
        have c0 : wt2.cell? ⟨mb, 0, none⟩ = some (.slice (some ⟨b, off, none⟩) G.length vc) := cell_old ((HBw.out.block mb hmlt).trans HM.out.hd) (Below.refl _ _)
        clear hoc2 hbc2 hnc2 d1
        go_wp2_with fail
        have LenL : Hid ((pgAt (mls G) (f) ++ headL (mls G) (f + 1) i p' i' W).length ≤ 1000) := (by show _ ≤ _; have := HHL.out; have := HF.out.page f; rw [List.length_append]; omega)
        have CL : Hid (∀ W', W' = wt2.drew → Calls Try.prog 47 #[.slice ac2 nc2 cc2] W' (LaidA (.slice ac2 nc2 cc2) (pgAt (mls G) (f) ++ headL (mls G) (f + 1) i p' i' W) W')) := fun W' h => by
          subst h
          have q := (HLp.out : Prs wt2 (.slice ac2 nc2 cc2) (pgAt (mls G) (f) ++ headL (mls G) (f + 1) i p' i' W))
          obtain ⟨_, _, e9, -⟩ := q.form
          simp only [Value.slice.injEq] at e9
          have q2 := q.old (Below.drew (Below.refl wt2.heap.size wt2))
          rw [e9.2.1] at q2 ⊢
          exact laid_any ac2 cc2 (pgAt (mls G) (f) ++ headL (mls G) (f + 1) i p' i' W) _ q2 (by have := LenL.out; omega)
        have HDone : Hid (∀ (wl wr : World) (T : List Pg) (r : Value), mls T = laidL (pgAt (mls G) (f) ++ headL (mls G) (f + 1) i p' i' W) → (∀ g ∈ T, RdG wt2.drew g) → Below wt2.heap.size wt2 wl → (∀ g ∈ T, ∀ a, g.a = some a → blk (.slice ac2 nc2 cc2) = some a.block) →
            wr.ownsRow base 29 1 r (((G.map sv).take f ++ T.map sv) ++ (G.map sv).drop G.length).length (((G.map sv).take f ++ T.map sv) ++ (G.map sv).drop G.length) → wl.grownBy wr (Value.slice (some ⟨b, off, none⟩) G.length vc).ownBlock → (∀ k, r.ownBlock = some k → (Value.slice (some ⟨b, off, none⟩) G.length vc).ownBlock = some k ∨ wl.heap.size ≤ k) →
            ∃ v' G', Mp base (wr.setCell ⟨mb, 0, none⟩ r) mb v' G' ∧ mls G' = changeL (mls G) (f + 1) i p' i' W ∧ Keep (MX mb (.slice (some ⟨b, off, none⟩) G.length vc)) w (wr.setCell ⟨mb, 0, none⟩ r) ∧ (∀ k, v'.ownBlock = some k → (Value.slice (some ⟨b, off, none⟩) G.length vc).ownBlock = some k ∨ w.heap.size ≤ k) ∧ (∀ g ∈ G', g ∈ G ∨ ∀ a, g.a = some a → w.heap.size ≤ a.block)) := fun wl wr T r hT1 hT2 hbl hT3 ho hg hnw =>
          chg_fin HM.out (HBw.out.trans (hbl.mono HBw.out.size)) (fun g hg' => (hT2 g hg').old (drew_below hbl)) (fun g hg' a ha => by obtain ⟨b, hb, e9⟩ := blk_of (hT3 g hg' a ha); rw [← e9]; exact HLo.out b hb) (fun g hg' m hm => HOf.out m (by
            have : m ∈ (mls T).flatten := List.mem_flatten.2 ⟨g.M, mls_mem hg', hm⟩
            rw [hT1, laid_flat] at this
            exact this)) ho hg hnw (by
              rw [show mls (G.take f ++ T ++ G.drop G.length) = (mls G).take f ++ mls T ++ (mls G).drop G.length from by simp [mls], hT1]
              exact HML.out)
        have hmd9 : wt2.heap[mb]? = some (.cells #[.slice (some ⟨b, off, none⟩) G.length vc] 65 (0, 0)) := (HBw.out.block mb hmlt).trans HM.out.hd
        have HMD := hid hmd9
        clear hmd9
        have HSZ : Hid (∀ W', Below wt2.heap.size wt2 W' → w.heap.size ≤ W'.heap.size) := fun W' h => Nat.le_trans HBw.out.size h.size
        have CRep : Hid (∀ (wl : World) (T : List Pg) (tv : Value), Below wt2.heap.size wt2 wl → mls T = laidL (pgAt (mls G) (f) ++ headL (mls G) (f + 1) i p' i' W) → Fresh wt2.drew tv T wl → Calls Try.prog 46 #[.slice (some ⟨b, off, none⟩) G.length vc, .int .i64 ((f:Int)), .int .i64 ((G.length:Int)), tv] wl (fun ee w' => ∃ r, ee = .returned r ∧ w'.ownsRow base 29 1 r (((G.map sv).take f ++ T.map sv) ++ (G.map sv).drop G.length).length (((G.map sv).take f ++ T.map sv) ++ (G.map sv).drop G.length) ∧ wl.grownBy w' (Value.slice (some ⟨b, off, none⟩) G.length vc).ownBlock ∧ ∀ k, r.ownBlock = some k → (Value.slice (some ⟨b, off, none⟩) G.length vc).ownBlock = some k ∨ wl.heap.size ≤ k)) := fun wl T tv hbl hT1 hT3 => by
          have hbw := HBw.out.trans (hbl.mono HBw.out.size)
          have hTl : T.length = (laidL (pgAt (mls G) (f) ++ headL (mls G) (f + 1) i p' i' W)).length := by rw [← hT1, mls_len]
          have hl2 := laid_len (pgAt (mls G) (f) ++ headL (mls G) (f + 1) i p' i' W)
          have e1 : ((f:Int) : Int) = ((f : Nat) : Int) := by omega
          have e2 : ((G.length:Int) : Int) = ((G.length : Nat) : Int) := by omega
          rw [e1, e2]
          refine replace_any base (.slice (some ⟨b, off, none⟩) G.length vc) (G.map sv) tv (T.map sv) f G.length wl (by rw [List.length_map]; exact own_old HM.out.own hbw) (by rw [List.length_map]; omega) (fun u hu => by obtain ⟨g, _, rfl⟩ := List.mem_map.1 hu; rfl)
            (Nat.le_trans HM.out.base_le hbw.size) (by rw [List.length_map]; omega) (vals_of hT3) (fun a ha e9 => ?_) ?_ (by rw [List.length_map]; exact HEl.out)
          · rcases hT3 with ⟨_, e8⟩ | ⟨_, g2, hg2, e8, _⟩
            · rw [e8] at ha; cases ha
            · rw [e8] at ha
              have h7 : g2 = a := by simpa [blk] using ha
              have h8 := (HM.out.own.lt a e9).2
              have h6 := HBw.out.size
              have h5 : wt2.drew.heap.size = wt2.heap.size := rfl
              omega
          · rw [List.length_map, List.length_map]
            rcases HIJ.out with h | ⟨h1, h2, h3, h4⟩
            · exact .inl h
            · exact .inr ⟨h1, by omega, h3, by have := hl2.2 h4; omega⟩
        go_region_with
          (first
            | (go_at_call 47; refine (CL.out _ rfl).mono ?_; rintro e wl ⟨T, tv, rfl, hT1, hT2, hT3, hbl, hT4⟩; have HT1 := hid hT1; have HT2 := hid hT2; have HT3 := hid hT3; have HBL := hid (below_of_drew hbl); have HT4 := hid hT4; have HszL : Hid (w.heap.size ≤ wl.heap.size) := Nat.le_trans HBw.out.size HBL.out.size; have hcL : wl.cell? ⟨mb, 0, none⟩ = some (.slice (some ⟨b, off, none⟩) G.length vc) := cell_old HMD.out HBL.out; clear hT1 hT2 hT3 hbl hT4)
            | (go_at_call 46; refine (CRep.out _ _ _ HBL.out HT1.out HT3.out).mono ?_; rintro e wr ⟨r, rfl, ho, hg, hnw⟩; obtain ⟨ro, rn, rc, rfl⟩ := own_slice ho; have HO := hid ho; have HG := hid hg; have HNW := hid hnw; have HszR : Hid (w.heap.size ≤ wr.heap.size) := Nat.le_trans HszL.out hg.size; have hcR : wr.cell? ⟨mb, 0, none⟩ = some (.slice (some ⟨b, off, none⟩) G.length vc) := cell_rep HMD.out HBL.out HM.out.ne hg; have hfR : wr.frozen? ⟨mb, 0, none⟩ = false := froz_rep HMD.out HBL.out HM.out.ne hg; clear ho hg hnw))
        all_goals (go_wp2_with fail)
        all_goals (
          refine bodyPost_ret (results_none rfl _ _ _) rfl ?_
          obtain ⟨v', G', z1, z2, z3, z4, z5⟩ := HDone.out _ _ _ _ HT1.out HT2.out HBL.out HT4.out HO.out HG.out HNW.out
          exact ⟨v', G', _, rfl, z1, z2, z3, z4, z5⟩)
      · obtain rfl : p = 0 := by omega
        · have HML : Hid ((mls G).take 0 ++ laidL (headL (mls G) 0 i p' i' W) ++ (mls G).drop G.length = changeL (mls G) 0 i p' i' W) := by
            show _ = _; unfold changeL; rw [if_neg (by rw [← HNC.out]; exact h4), if_neg (by omega), if_neg (by rw [mls_len]; omega), mls_len, Nat.min_eq_right (by omega)]
          have HIJ : Hid (0 < G.length ∨ (G.length = 0 ∧ 0 = 0 ∧ G.length = 0 ∧ 0 < (headL (mls G) 0 i p' i' W).length)) := (by
            rcases Nat.eq_zero_or_pos G.length with h | h
            · refine .inr ⟨h, rfl, h, ?_⟩
              have := hne h
              unfold headL
              rw [List.length_append, List.length_append]; omega
            · exact .inl h)
          have HEl : Hid (G.length ≤ G.length) := (by show _ ≤ _; omega)
          have hen' : ¬ ((G.length : Int) < (G.length : Int)) := by omega
          go_wp2_with fail
          have LenL : Hid ((headL (mls G) 0 i p' i' W).length ≤ 1000) := (by show _ ≤ _; have := HHL.out; omega)
          have CL : Hid (∀ W', W' = wt.drew → Calls Try.prog 47 #[.slice ac nc cc] W' (LaidA (.slice ac nc cc) (headL (mls G) 0 i p' i' W) W')) := fun W' h => by
            subst h
            have q := (HLp.out : Prs wt (.slice ac nc cc) (headL (mls G) 0 i p' i' W))
            obtain ⟨_, _, e9, -⟩ := q.form
            simp only [Value.slice.injEq] at e9
            have q2 := q.old (Below.drew (Below.refl wt.heap.size wt))
            rw [e9.2.1] at q2 ⊢
            exact laid_any ac cc (headL (mls G) 0 i p' i' W) _ q2 (by have := LenL.out; omega)
          have HDone : Hid (∀ (wl wr : World) (T : List Pg) (r : Value), mls T = laidL (headL (mls G) 0 i p' i' W) → (∀ g ∈ T, RdG wt.drew g) → Below wt.heap.size wt wl → (∀ g ∈ T, ∀ a, g.a = some a → blk (.slice ac nc cc) = some a.block) →
              wr.ownsRow base 29 1 r (((G.map sv).take 0 ++ T.map sv) ++ (G.map sv).drop G.length).length (((G.map sv).take 0 ++ T.map sv) ++ (G.map sv).drop G.length) → wl.grownBy wr (Value.slice vo G.length vc).ownBlock → (∀ k, r.ownBlock = some k → (Value.slice vo G.length vc).ownBlock = some k ∨ wl.heap.size ≤ k) →
              ∃ v' G', Mp base (wr.setCell ⟨mb, 0, none⟩ r) mb v' G' ∧ mls G' = changeL (mls G) (0) i p' i' W ∧ Keep (MX mb (.slice vo G.length vc)) w (wr.setCell ⟨mb, 0, none⟩ r) ∧ (∀ k, v'.ownBlock = some k → (Value.slice vo G.length vc).ownBlock = some k ∨ w.heap.size ≤ k) ∧ (∀ g ∈ G', g ∈ G ∨ ∀ a, g.a = some a → w.heap.size ≤ a.block)) := fun wl wr T r hT1 hT2 hbl hT3 ho hg hnw =>
            chg_fin HM.out (HBw.out.trans (hbl.mono HBw.out.size)) (fun g hg' => (hT2 g hg').old (drew_below hbl)) (fun g hg' a ha => by obtain ⟨b, hb, e9⟩ := blk_of (hT3 g hg' a ha); rw [← e9]; exact HLo.out b hb) (fun g hg' m hm => HOf.out m (by
              have : m ∈ (mls T).flatten := List.mem_flatten.2 ⟨g.M, mls_mem hg', hm⟩
              rw [hT1, laid_flat] at this
              exact this)) ho hg hnw (by
                rw [show mls (G.take 0 ++ T ++ G.drop G.length) = (mls G).take 0 ++ mls T ++ (mls G).drop G.length from by simp [mls], hT1]
                exact HML.out)
          have hmd9 : wt.heap[mb]? = some (.cells #[.slice vo G.length vc] 65 (0, 0)) := (HBw.out.block mb hmlt).trans HM.out.hd
          have HMD := hid hmd9
          clear hmd9
          have HSZ : Hid (∀ W', Below wt.heap.size wt W' → w.heap.size ≤ W'.heap.size) := fun W' h => Nat.le_trans HBw.out.size h.size
          have CRep : Hid (∀ (wl : World) (T : List Pg) (tv : Value), Below wt.heap.size wt wl → mls T = laidL (headL (mls G) 0 i p' i' W) → Fresh wt.drew tv T wl → Calls Try.prog 46 #[.slice vo G.length vc, .int .i64 ((0:Int)), .int .i64 ((G.length:Int)), tv] wl (fun ee w' => ∃ r, ee = .returned r ∧ w'.ownsRow base 29 1 r (((G.map sv).take 0 ++ T.map sv) ++ (G.map sv).drop G.length).length (((G.map sv).take 0 ++ T.map sv) ++ (G.map sv).drop G.length) ∧ wl.grownBy w' (Value.slice vo G.length vc).ownBlock ∧ ∀ k, r.ownBlock = some k → (Value.slice vo G.length vc).ownBlock = some k ∨ wl.heap.size ≤ k)) := fun wl T tv hbl hT1 hT3 => by
            have hbw := HBw.out.trans (hbl.mono HBw.out.size)
            have hTl : T.length = (laidL (headL (mls G) 0 i p' i' W)).length := by rw [← hT1, mls_len]
            have hl2 := laid_len (headL (mls G) 0 i p' i' W)
            have e1 : ((0:Int) : Int) = ((0 : Nat) : Int) := by omega
            have e2 : ((G.length:Int) : Int) = ((G.length : Nat) : Int) := by omega
            rw [e1, e2]
            refine replace_any base (.slice vo G.length vc) (G.map sv) tv (T.map sv) 0 G.length wl (by rw [List.length_map]; exact own_old HM.out.own hbw) (by rw [List.length_map]; omega) (fun u hu => by obtain ⟨g, _, rfl⟩ := List.mem_map.1 hu; rfl)
              (Nat.le_trans HM.out.base_le hbw.size) (by rw [List.length_map]; omega) (vals_of hT3) (fun a ha e9 => ?_) ?_ (by rw [List.length_map]; exact HEl.out)
            · rcases hT3 with ⟨_, e8⟩ | ⟨_, g2, hg2, e8, _⟩
              · rw [e8] at ha; cases ha
              · rw [e8] at ha
                have h7 : g2 = a := by simpa [blk] using ha
                have h8 := (HM.out.own.lt a e9).2
                have h6 := HBw.out.size
                have h5 : wt.drew.heap.size = wt.heap.size := rfl
                omega
            · rw [List.length_map, List.length_map]
              rcases HIJ.out with h | ⟨h1, h2, h3, h4⟩
              · exact .inl h
              · exact .inr ⟨h1, by omega, h3, by have := hl2.2 h4; omega⟩
          go_region_with
            (first
              | (go_at_call 47; refine (CL.out _ rfl).mono ?_; rintro e wl ⟨T, tv, rfl, hT1, hT2, hT3, hbl, hT4⟩; have HT1 := hid hT1; have HT2 := hid hT2; have HT3 := hid hT3; have HBL := hid (below_of_drew hbl); have HT4 := hid hT4; have HszL : Hid (w.heap.size ≤ wl.heap.size) := Nat.le_trans HBw.out.size HBL.out.size; have hcL : wl.cell? ⟨mb, 0, none⟩ = some (.slice vo G.length vc) := cell_old HMD.out HBL.out; clear hT1 hT2 hT3 hbl hT4)
              | (go_at_call 46; refine (CRep.out _ _ _ HBL.out HT1.out HT3.out).mono ?_; rintro e wr ⟨r, rfl, ho, hg, hnw⟩; obtain ⟨ro, rn, rc, rfl⟩ := own_slice ho; have HO := hid ho; have HG := hid hg; have HNW := hid hnw; have HszR : Hid (w.heap.size ≤ wr.heap.size) := Nat.le_trans HszL.out hg.size; have hcR : wr.cell? ⟨mb, 0, none⟩ = some (.slice vo G.length vc) := cell_rep HMD.out HBL.out HM.out.ne hg; have hfR : wr.frozen? ⟨mb, 0, none⟩ = false := froz_rep HMD.out HBL.out HM.out.ne hg; clear ho hg hnw))
          all_goals (go_wp2_with fail)
          all_goals (
            refine bodyPost_ret (results_none rfl _ _ _) rfl ?_
            obtain ⟨v', G', z1, z2, z3, z4, z5⟩ := HDone.out _ _ _ _ HT1.out HT2.out HBL.out HT4.out HO.out HG.out HNW.out
            exact ⟨v', G', _, rfl, z1, z2, z3, z4, z5⟩)
end Go.Proofs.Ytcgnghkjkdkmmaa
