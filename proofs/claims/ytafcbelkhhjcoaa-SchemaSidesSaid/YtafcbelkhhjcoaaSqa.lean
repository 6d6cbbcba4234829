/-
  LAYER 12: what the developers ask of a catalog, in their own parts; the same as the document's.
-/
import Derived.Test.YtafcbelkhhjcoaaSa
set_option linter.unusedVariables false
set_option linter.unusedSimpArgs false
set_option maxRecDepth 100000
namespace Go.Proofs.Ytafcbelkhhjcoaa
open Go.RowKit Go.Deep

/-- No two alike: those of the second list, behind the first. -/
def unl {α : Type} [BEq α] : List α → List α → Bool
  | _, [] => true
  | p, v :: r => !p.contains v && unl (p ++ [v]) r
/-- Rising, from a on, below e. -/
def rsB (e : Int) : Int → List Int → Bool
  | _, [] => true
  | a, n :: r => !(decide (n ≤ a) || decide (e ≤ n)) && rsB e n r

theorem unl_app {α : Type} [BEq α] : ∀ (p a b : List α), unl p (a ++ b) = (unl p a && unl (p ++ a) b)
  | p, [], b => by simp [unl]
  | p, v :: r, b => by
    have h := unl_app (p ++ [v]) r b
    show (!p.contains v && unl (p ++ [v]) (r ++ b)) = ((!p.contains v && unl (p ++ [v]) r) && unl (p ++ v :: r) b)
    rw [h, Bool.and_assoc, List.append_assoc]; rfl

theorem plcs_unl (n : Int) : ∀ (p l : List Int), plcs n p l = ((l.all fun z => decide (0 ≤ z)) && (l.all fun z => decide (z < n)) && unl p l)
  | p, [] => rfl
  | p, z :: r => by
    have h := plcs_unl n (p ++ [z]) r
    show (!(decide (z < 0) || decide (n ≤ z) || p.contains z) && plcs n (p ++ [z]) r) = (((decide (0 ≤ z) && r.all fun z => decide (0 ≤ z)) && (decide (z < n) && r.all fun z => decide (z < n))) && (!p.contains z && unl (p ++ [z]) r))
    rw [h]
    have e1 : decide (0 ≤ z) = !decide (z < 0) := by rw [← decide_not]; congr 1; simp
    have e2 : decide (z < n) = !decide (n ≤ z) := by rw [← decide_not]; congr 1; simp
    rw [e1, e2]
    cases decide (z < 0) <;> cases decide (n ≤ z) <;> cases p.contains z <;> cases (r.all fun z => decide (0 ≤ z)) <;> cases (r.all fun z => decide (z < n)) <;> cases unl (p ++ [z]) r <;> rfl

theorem any_names {α : Type} (f : α → List UInt8) (p : List α) (s : List UInt8) : (p.any fun d => decide (f d = s)) = (p.map f).contains s := by
  rw [List.contains_eq_any_beq, List.any_map, Bool.eq_iff_iff, List.any_eq_true, List.any_eq_true]
  simp only [decide_eq_true_eq, Function.comp, beq_iff_eq]
  exact ⟨fun ⟨d, h1, h2⟩ => ⟨d, h1, h2.symm⟩, fun ⟨d, h1, h2⟩ => ⟨d, h1, h2.symm⟩⟩

/-- A column, but for those ahead. -/
def colF (c : Col) : Bool := nameB c.name && (decide (c.kind = 1) || decide (c.kind = 2))
theorem colsB_unl : ∀ (p l : List Col), colsB p l = (l.all colF && unl (p.map (·.name)) (l.map (·.name)))
  | p, [] => rfl
  | p, c :: r => by
    have h := colsB_unl (p ++ [c]) r
    show (colB p c && colsB (p ++ [c]) r) = ((colF c && r.all colF) && (!(p.map (·.name)).contains c.name && unl (p.map (·.name) ++ [c.name]) (r.map (·.name))))
    have e : colB p c = (colF c && !(p.map (·.name)).contains c.name) := by rw [← any_names]; rfl
    rw [h, e, List.map_append]
    show _ = ((colF c && r.all colF) && (!(p.map (·.name)).contains c.name && unl (p.map (·.name) ++ [c.name]) (r.map (·.name))))
    cases colF c <;> cases (p.map (·.name)).contains c.name <;> cases r.all colF <;> rfl

def fitCols (l : List Col) : Bool := decide (1 ≤ l.length) && decide (l.length ≤ 6) && l.all colF && unl [] (l.map (·.name))
def fitPl (l : List Int) (n : Int) : Bool := decide (1 ≤ l.length) && decide (l.length ≤ 6) && (l.all fun z => decide (0 ≤ z)) && (l.all fun z => decide (z < n)) && unl [] l
theorem fitPl_eq (l : List Int) (n : Int) : fitPl l n = placesB l n := by
  unfold fitPl placesB
  rw [plcs_unl]
  cases decide (1 ≤ l.length) <;> cases decide (l.length ≤ 6) <;> cases (l.all fun z => decide (0 ≤ z)) <;> cases (l.all fun z => decide (z < n)) <;> cases unl [] l <;> rfl
def keyF (t : Tab) : Bool := t.key.all (fun z => !(colAt t.cols z).null)
theorem fitTab_eq (t : Tab) : (nameB t.name && fitCols t.cols && placesB t.key t.cols.length && keyF t) = tabB t := by
  unfold tabB fitCols keyF
  rw [colsB_unl]
  show _ = (nameB t.name && decide (1 ≤ t.cols.length) && decide (t.cols.length ≤ 6) && placesB t.key t.cols.length && (t.cols.all colF && unl [] (t.cols.map (·.name))) && _)
  cases nameB t.name <;> cases decide (1 ≤ t.cols.length) <;> cases decide (t.cols.length ≤ 6) <;> cases placesB t.key t.cols.length <;> cases t.cols.all colF <;> cases unl [] (t.cols.map (·.name)) <;> rfl

def lastOr {α : Type} (f : α → Int) (p : List α) : Int := match p.getLast? with | none => 0 | some q => f q
theorem last_new {α : Type} (f : α → Int) (p : List α) (h : 0 ≤ lastOr f p) (z : Int) : (decide (1 ≤ z) && (match p.getLast? with | none => true | some q => decide (f q < z))) = !decide (z ≤ lastOr f p) := by
  unfold lastOr at *
  cases hq : p.getLast? with
  | none => simp only [Bool.and_true]; rw [← decide_not]; congr 1; simp; omega
  | some q =>
    rw [hq] at h
    simp only at h ⊢
    rw [← Bool.decide_and, ← decide_not]; congr 1; simp; omega
theorem last_app {α : Type} (f : α → Int) (p : List α) (x : α) : lastOr f (p ++ [x]) = f x := by simp [lastOr]

theorem tabsB_eq (nxt : Int) : ∀ (p l : List Tab), 0 ≤ lastOr (·.id) p → tabsB nxt p l = (rsB nxt (lastOr (·.id) p) (l.map (·.id)) && unl (p.map (·.id)) (l.map (·.id)) && l.all tabB && unl (p.map (·.name)) (l.map (·.name)))
  | p, [], _ => rfl
  | p, t :: r, h => by
    have e : tabNew nxt p t = (!decide (t.id ≤ lastOr (·.id) p) && !decide (nxt ≤ t.id) && !(p.map (·.id)).contains t.id && tabB t && !(p.map (·.name)).contains t.name) := by
      rw [← last_new _ _ h, ← any_names]
      unfold tabNew
      have e2 : decide (t.id < nxt) = !decide (nxt ≤ t.id) := by rw [← decide_not]; congr 1; simp
      rw [e2]
      generalize (p.any fun d => decide (d.name = t.name)) = b2
      generalize p.getLast? = o
      cases o with
      | none => cases decide (1 ≤ t.id) <;> cases decide (nxt ≤ t.id) <;> cases (p.map (·.id)).contains t.id <;> cases tabB t <;> cases b2 <;> rfl
      | some q => simp only; cases decide (q.id < t.id) <;> cases decide (1 ≤ t.id) <;> cases decide (nxt ≤ t.id) <;> cases (p.map (·.id)).contains t.id <;> cases tabB t <;> cases b2 <;> rfl
    show (tabNew nxt p t && tabsB nxt (p ++ [t]) r) = ((!(decide (t.id ≤ lastOr (·.id) p) || decide (nxt ≤ t.id)) && rsB nxt t.id (r.map (·.id))) && (!(p.map (·.id)).contains t.id && unl (p.map (·.id) ++ [t.id]) (r.map (·.id))) && (tabB t && r.all tabB) && (!(p.map (·.name)).contains t.name && unl (p.map (·.name) ++ [t.name]) (r.map (·.name))))
    rw [e]
    by_cases h1 : t.id ≤ lastOr (·.id) p
    · rw [decide_eq_true h1]; rfl
    · have h2 := tabsB_eq nxt (p ++ [t]) r (by rw [last_app]; omega)
      rw [h2, last_app, List.map_append, List.map_append]
      show _ = ((!(decide (t.id ≤ lastOr (·.id) p) || decide (nxt ≤ t.id)) && rsB nxt t.id (r.map (·.id))) && (!(p.map (·.id)).contains t.id && unl (p.map (·.id) ++ [t.id]) (r.map (·.id))) && (tabB t && r.all tabB) && (!(p.map (·.name)).contains t.name && unl (p.map (·.name) ++ [t.name]) (r.map (·.name))))
      simp only [List.map_cons, List.map_nil]
      generalize unl (p.map (·.name) ++ [t.name]) (r.map (·.name)) = u1
      generalize unl (p.map (·.id) ++ [t.id]) (r.map (·.id)) = u2
      cases decide (t.id ≤ lastOr (·.id) p) <;> cases decide (nxt ≤ t.id) <;> cases rsB nxt t.id (r.map (·.id)) <;> cases (p.map (·.id)).contains t.id <;> cases tabB t <;> cases (p.map (·.name)).contains t.name <;> cases r.all tabB <;> cases u1 <;> cases u2 <;> rfl

/-- An index, but for its ID and for those ahead. -/
def idxF (C : Cat) (x : Idx) : Bool := (match byId C.tabs x.table with | none => false | some t => nameB x.name && placesB x.cols t.cols.length) && decide (1 ≤ x.state) && decide (x.state ≤ 7)
theorem idxsB_eq (C : Cat) : ∀ (p l : List Idx), 0 ≤ lastOr (·.id) p → idxsB C p l = (rsB C.nxt (lastOr (·.id) p) (l.map (·.id)) && unl (C.tabs.map (·.id) ++ p.map (·.id)) (l.map (·.id)) && l.all (idxF C) && unl (p.map (·.name)) (l.map (·.name)))
  | p, [], _ => rfl
  | p, t :: r, h => by
    have e : idxNew C p t = (!decide (t.id ≤ lastOr (·.id) p) && !decide (C.nxt ≤ t.id) && !(C.tabs.map (·.id) ++ p.map (·.id)).contains t.id && idxF C t && !(p.map (·.name)).contains t.name) := by
      rw [← last_new _ _ h, ← any_names]
      unfold idxNew idxF
      have e2 : decide (t.id < C.nxt) = !decide (C.nxt ≤ t.id) := by rw [← decide_not]; congr 1; simp
      rw [e2]
      generalize (p.any fun d => decide (d.name = t.name)) = b2
      generalize p.getLast? = o
      generalize (C.tabs.map (·.id) ++ p.map (·.id)).contains t.id = b4
      generalize byId C.tabs t.table = o2
      cases o2 with
      | none => cases o <;> cases decide (1 ≤ t.id) <;> cases decide (C.nxt ≤ t.id) <;> cases b4 <;> simp
      | some t2 =>
        simp only
        generalize (nameB t.name && placesB t.cols t2.cols.length) = b3
        cases o with
        | none => cases decide (1 ≤ t.id) <;> cases decide (C.nxt ≤ t.id) <;> cases b4 <;> cases b2 <;> cases b3 <;> cases decide (1 ≤ t.state) <;> cases decide (t.state ≤ 7) <;> rfl
        | some q => simp only; cases decide (q.id < t.id) <;> cases decide (1 ≤ t.id) <;> cases decide (C.nxt ≤ t.id) <;> cases b4 <;> cases b2 <;> cases b3 <;> cases decide (1 ≤ t.state) <;> cases decide (t.state ≤ 7) <;> rfl
    show (idxNew C p t && idxsB C (p ++ [t]) r) = ((!(decide (t.id ≤ lastOr (·.id) p) || decide (C.nxt ≤ t.id)) && rsB C.nxt t.id (r.map (·.id))) && (!(C.tabs.map (·.id) ++ p.map (·.id)).contains t.id && unl (C.tabs.map (·.id) ++ p.map (·.id) ++ [t.id]) (r.map (·.id))) && (idxF C t && r.all (idxF C)) && (!(p.map (·.name)).contains t.name && unl (p.map (·.name) ++ [t.name]) (r.map (·.name))))
    rw [e]
    by_cases h1 : t.id ≤ lastOr (·.id) p
    · rw [decide_eq_true h1]; rfl
    · have h2 := idxsB_eq C (p ++ [t]) r (by rw [last_app]; omega)
      rw [h2, last_app, List.map_append, List.map_append]
      simp only [List.map_cons, List.map_nil, List.append_assoc]
      generalize unl (p.map (·.name) ++ [t.name]) (r.map (·.name)) = u1
      generalize unl (C.tabs.map (·.id) ++ (p.map (·.id) ++ [t.id])) (r.map (·.id)) = u2
      cases decide (t.id ≤ lastOr (·.id) p) <;> cases decide (C.nxt ≤ t.id) <;> cases rsB C.nxt t.id (r.map (·.id)) <;> cases (C.tabs.map (·.id) ++ p.map (·.id)).contains t.id <;> cases idxF C t <;> cases (p.map (·.name)).contains t.name <;> cases r.all (idxF C) <;> cases u1 <;> cases u2 <;> rfl

def numsF (C : Cat) : Bool := decide (0 ≤ C.ver) && decide (1 ≤ C.nxt) && decide (C.nxt ≤ 1073741824) && decide (C.tabs.length ≤ 6) && decide (C.idxs.length ≤ 10)
def idsF (C : Cat) : Bool := rsB C.nxt 0 (C.tabs.map (·.id)) && rsB C.nxt 0 (C.idxs.map (·.id)) && unl [] (C.tabs.map (·.id) ++ C.idxs.map (·.id))
def namesF (C : Cat) : Bool := unl [] (C.tabs.map (·.name)) && unl [] (C.idxs.map (·.name))
theorem catF_eq (C : Cat) : (numsF C && idsF C && namesF C && C.tabs.all tabB && C.idxs.all (idxF C)) = catB C := by
  unfold catB
  rw [tabsB_eq _ _ _ (by decide), idxsB_eq _ _ _ (by decide)]
  show (numsF C && idsF C && namesF C && C.tabs.all tabB && C.idxs.all (idxF C)) = (numsF C && (rsB C.nxt 0 (C.tabs.map (·.id)) && unl [] (C.tabs.map (·.id)) && C.tabs.all tabB && unl [] (C.tabs.map (·.name))) && (rsB C.nxt 0 (C.idxs.map (·.id)) && unl (C.tabs.map (·.id) ++ []) (C.idxs.map (·.id)) && C.idxs.all (idxF C) && unl [] (C.idxs.map (·.name))))
  unfold idsF namesF
  rw [unl_app, List.append_nil, List.nil_append]
  generalize unl (C.tabs.map (·.id)) (C.idxs.map (·.id)) = u1
  generalize unl [] (C.tabs.map (·.id)) = u2
  generalize unl [] (C.tabs.map (·.name)) = u3
  generalize unl [] (C.idxs.map (·.name)) = u4
  cases numsF C <;> cases rsB C.nxt 0 (C.tabs.map (·.id)) <;> cases rsB C.nxt 0 (C.idxs.map (·.id)) <;> cases u1 <;> cases u2 <;> cases u3 <;> cases u4 <;> cases C.tabs.all tabB <;> cases C.idxs.all (idxF C) <;> rfl
end Go.Proofs.Ytafcbelkhhjcoaa
