/-
  Plain mathematics of holding two against each other: by a stack of pairs, no two lists of kids twice. No Go.
-/
import Derived.Test.YtkllhnhinealfaaExMath
namespace Go.Proofs.Ytkllhnhinealfaa

mutual
/-- Whether two are the same. -/
def sameE : Ex → Ex → Bool
  | .mk k n s ks, .mk k' n' s' ks' => decide (k = k') && (decide (n = n') && (decide (s = s') && sameL ks ks'))
def sameL : List Ex → List Ex → Bool
  | [], [] => true
  | x :: xs, y :: ys => sameE x y && sameL xs ys
  | [], _ :: _ => false
  | _ :: _, [] => false
end
theorem sameL_iff_of {xs : List Ex} (h : ∀ x ∈ xs, ∀ y, sameE x y = true ↔ x = y) : ∀ ys, sameL xs ys = true ↔ xs = ys := by
  induction xs with
  | nil => intro ys; cases ys <;> simp [sameL]
  | cons x xs ih =>
    intro ys
    cases ys with
    | nil => simp [sameL]
    | cons y ys => simp [sameL, h x (by simp) y, ih (fun z hz => h z (by simp [hz])) ys]
theorem sameE_iff (a : Ex) : ∀ b, sameE a b = true ↔ a = b := by
  induction a using Ex.ind with
  | h k n s ks ih =>
    intro b
    obtain ⟨k', n', s', ks'⟩ := b
    simp [sameE, sameL_iff_of ih ks']
theorem sameE_eq (a b : Ex) (h : a = b) : sameE a b = true := (sameE_iff a b).2 h
theorem sameE_ne (a b : Ex) (h : a ≠ b) : sameE a b = false := by
  cases hs : sameE a b
  · rfl
  · exact absurd ((sameE_iff a b).1 hs) h
theorem sameE_self (a : Ex) : sameE a a = true := sameE_eq a a rfl
theorem sameE_comm (a b : Ex) : sameE a b = sameE b a := by
  by_cases h : a = b
  · subst h; rfl
  · rw [sameE_ne a b h, sameE_ne b a (fun e => h e.symm)]

/-- The two are the same, but for what their kids are. -/
def Alone2 (x y : Ex) : Prop := x.kind = y.kind ∧ x.n = y.n ∧ x.s = y.s ∧ x.kids.length = y.kids.length
theorem Alone2.kids {x y : Ex} (h : Alone2 x y) (hk : x.kids = y.kids) : x = y := by
  obtain ⟨k, n, s, ks⟩ := x
  obtain ⟨k', n', s', ks'⟩ := y
  obtain ⟨h1, h2, h3, _⟩ := h
  simp only [Ex.kind, Ex.n, Ex.s, Ex.kids] at h1 h2 h3 hk
  rw [h1, h2, h3, hk]
theorem alone_self (x : Ex) : Alone2 x x := ⟨rfl, rfl, rfl, rfl⟩
/-- A pair that is on the stack, or was held and found the same alone, with its lists of kids among those that were taken. -/
def Cov (S : List (List Ex × List Ex)) (wk : List (Ex × Ex)) (x y : Ex) : Prop := (x, y) ∈ wk ∨ (Alone2 x y ∧ (x.kids = [] ∨ (x.kids, y.kids) ∈ S))
structure SInv (a b : Ex) (S : List (List Ex × List Ex)) (wk : List (Ex × Ex)) : Prop where
  top : Cov S wk a b
  kids : ∀ p ∈ S, p.1.length = p.2.length ∧ ∀ j (h : j < p.1.length) (h' : j < p.2.length), Cov S wk p.1[j] p.2[j]
  down : a = b → ∀ p ∈ wk, p.1 = p.2
theorem SInv.start (a b : Ex) : SInv a b [] [(a, b)] :=
  ⟨.inl (by simp), (fun p hp => by cases hp), fun h p hp => by simp at hp; rw [hp]; exact h⟩
theorem SInv.done {a b : Ex} {S : List (List Ex × List Ex)} (h : SInv a b S []) : a = b := by
  have all : ∀ x : Ex, ∀ y, Cov S [] x y → x = y := by
    intro x
    induction x using Ex.ind with
    | h k n s ks ih =>
      intro y hc
      rcases hc with hc | ⟨ha, hc⟩
      · cases hc
      · refine ha.kids ?_
        simp only [Ex.kids] at hc ⊢
        rcases hc with hc | hc
        · have h4 := ha.2.2.2
          simp only [Ex.kids] at h4
          rw [hc] at h4 ⊢
          exact (List.eq_nil_of_length_eq_zero (by simpa [Ex.kids] using h4.symm)).symm
        · obtain ⟨hl, hj⟩ := h.kids _ hc
          refine List.ext_getElem hl (fun j h1 h2 => ?_)
          exact ih _ (List.getElem_mem h1) _ (hj j h1 h2)
  exact all a b h.top
theorem SInv.fail {a b x y : Ex} {S : List (List Ex × List Ex)} {wk : List (Ex × Ex)} (h : SInv a b S (wk ++ [(x, y)])) (hn : ¬ Alone2 x y) : a ≠ b := by
  intro e
  have := h.down e (x, y) (by simp)
  simp only at this
  subst this
  exact hn (alone_self x)
theorem Cov.pop {x y u v : Ex} {S S' : List (List Ex × List Ex)} {wk : List (Ex × Ex)} (h : Cov S (wk ++ [(x, y)]) u v) (hS : ∀ p ∈ S, p ∈ S') (ha : Alone2 x y) (hk : x.kids = [] ∨ (x.kids, y.kids) ∈ S') : Cov S' wk u v := by
  rcases h with h | ⟨h1, h2⟩
  · rcases List.mem_append.1 h with h | h
    · exact .inl h
    · simp at h
      obtain ⟨rfl, rfl⟩ := h
      exact .inr ⟨ha, hk⟩
  · exact .inr ⟨h1, h2.imp id (hS _)⟩
theorem Cov.more {x y : Ex} {S : List (List Ex × List Ex)} {wk more : List (Ex × Ex)} (h : Cov S wk x y) : Cov S (wk ++ more) x y := by
  rcases h with h | h
  · exact .inl (by simp [h])
  · exact .inr h
theorem SInv.skip {a b x y : Ex} {S : List (List Ex × List Ex)} {wk : List (Ex × Ex)} (h : SInv a b S (wk ++ [(x, y)])) (ha : Alone2 x y) (hk : x.kids = [] ∨ (x.kids, y.kids) ∈ S) : SInv a b S wk :=
  ⟨h.top.pop (fun _ h => h) ha hk, fun p hp => ⟨(h.kids p hp).1, fun j h1 h2 => ((h.kids p hp).2 j h1 h2).pop (fun _ h => h) ha hk⟩, fun e p hp => h.down e p (by simp [hp])⟩
theorem SInv.push {a b x y : Ex} {S : List (List Ex × List Ex)} {wk : List (Ex × Ex)} (h : SInv a b S (wk ++ [(x, y)])) (ha : Alone2 x y) : SInv a b ((x.kids, y.kids) :: S) (wk ++ x.kids.zip y.kids) := by
  have hk : x.kids = [] ∨ (x.kids, y.kids) ∈ (x.kids, y.kids) :: S := .inr (by simp)
  have hS : ∀ p ∈ S, p ∈ (x.kids, y.kids) :: S := fun p hp => by simp [hp]
  refine ⟨(h.top.pop hS ha hk).more, fun p hp => ?_, fun e p hp => ?_⟩
  · rcases List.mem_cons.1 hp with rfl | hp
    · refine ⟨ha.2.2.2, fun j h1 h2 => .inl (List.mem_append_right _ ?_)⟩
      simp only at h1 h2 ⊢
      exact List.mem_iff_getElem.2 ⟨j, by simp [List.length_zip]; omega, by simp⟩
    · exact ⟨(h.kids p hp).1, fun j h1 h2 => (((h.kids p hp).2 j h1 h2).pop hS ha hk).more⟩
  · rcases List.mem_append.1 hp with hp | hp
    · exact h.down e p (by simp [hp])
    · have hxy := h.down e (x, y) (by simp)
      simp only at hxy
      subst hxy
      obtain ⟨j, hj, rfl⟩ := List.mem_iff_getElem.1 hp
      simp
/-- How many parts are on the stack. -/
def stackN (wk : List (Ex × Ex)) : Nat := (wk.map (fun p => p.1.nodes)).sum
theorem stackN_append (xs ys : List (Ex × Ex)) : stackN (xs ++ ys) = stackN xs + stackN ys := by simp [stackN]
theorem stackN_one (p : Ex × Ex) : stackN [p] = p.1.nodes := by simp [stackN]
theorem nodes_pos (e : Ex) : 1 ≤ e.nodes := by obtain ⟨k, n, s, ks⟩ := e; simp only [Ex.nodes]; omega
theorem nodes_kids (e : Ex) : e.nodes = 1 + Ex.nodess e.kids := by obtain ⟨k, n, s, ks⟩ := e; rfl
theorem stackN_zip (xs : List Ex) : ∀ ys : List Ex, xs.length = ys.length → stackN (xs.zip ys) = Ex.nodess xs := by
  induction xs with
  | nil => intro ys _; rfl
  | cons x xs ih =>
    intro ys h
    cases ys with
    | nil => simp at h
    | cons y ys =>
      have h1 := ih ys (by simpa using h)
      simp only [stackN, List.zip_cons_cons, List.map_cons, List.sum_cons, Ex.nodess] at h1 ⊢
      rw [h1]
theorem stackN_length (wk : List (Ex × Ex)) : wk.length ≤ stackN wk := by
  induction wk with
  | nil => simp
  | cons p wk ih =>
    have := nodes_pos p.1
    simp only [stackN, List.map_cons, List.sum_cons, List.length_cons] at ih ⊢
    omega
end Go.Proofs.Ytkllhnhinealfaa
