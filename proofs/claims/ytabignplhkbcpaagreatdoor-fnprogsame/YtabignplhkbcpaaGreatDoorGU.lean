/-
  RunMath, MoreMath: these texts one behind the other, as a claim holds at most 60 files.
-/
import Derived.Test.YtabignplhkbcpaaGreatDoorGR
namespace Go.Proofs.YtabignplhkbcpaaGreatDoor

theorem deedsL_take : ∀ (xs : List St) (ds : List De) (k : Nat), deedsL xs = some ds → deedsL (xs.take k) = some (ds.take k) := by
  intro xs
  induction xs with
  | nil => intro ds k h; cases h; simp [deedsL]
  | cons x xs ih =>
    intro ds k h
    obtain ⟨d, h1, h2⟩ := Option.bind_eq_some_iff.1 h
    obtain ⟨es, h3, rfl⟩ := Option.map_eq_some_iff.1 h2
    cases k with
    | zero => simp [deedsL]
    | succ k => simp only [List.take_succ_cons, deedsL, h1, ih es k h3, Option.bind_some, Option.map_some]
theorem deedsL_append : ∀ (xs ys : List St) (ds es : List De), deedsL xs = some ds → deedsL ys = some es → deedsL (xs ++ ys) = some (ds ++ es) := by
  intro xs
  induction xs with
  | nil => intro ys ds es h h2; cases h; simpa using h2
  | cons x xs ih =>
    intro ys ds es h hy
    obtain ⟨d, h1, h2⟩ := Option.bind_eq_some_iff.1 h
    obtain ⟨es', h3, rfl⟩ := Option.map_eq_some_iff.1 h2
    simp only [List.cons_append, deedsL, h1, ih ys es' es h3 hy, Option.bind_some, Option.map_some]
theorem doP_take {xs : List St} {ds : List De} (h : doP xs = some ds) {k : Nat} (h1 : 1 ≤ k) (h2 : k ≤ xs.length) : doP (xs.take k) = some (ds.take k) := by
  obtain ⟨h3, h4, h5⟩ := doP_some h
  unfold doP
  rw [if_pos ⟨by rw [List.length_take]; omega, by rw [List.length_take]; omega⟩]
  exact deedsL_take xs ds k h3

/-- What was said stands. -/
theorem runFrom_pre (ds : List De) : ∀ (ss : List ByteArray) (vs out : List Int), ∃ more, (runFrom ds ss vs out).1 = out ++ more := by
  induction ds with
  | nil => intro ss vs out; exact ⟨[], by rw [runFrom]; simp⟩
  | cons d ds ih =>
    intro ss vs out
    rw [runFrom]
    cases saysD ss vs d with
    | none => exact ⟨[], by simp⟩
    | some ns =>
      obtain ⟨more, h⟩ := ih (toldS ss d) (toldI ss vs d) (out ++ ns)
      exact ⟨ns ++ more, by show (runFrom ds (toldS ss d) (toldI ss vs d) (out ++ ns)).1 = _; rw [h, List.append_assoc]⟩
/-- A program that is cut says first what the whole says. -/
theorem runFrom_take (ds : List De) : ∀ (k : Nat) (ss : List ByteArray) (vs out : List Int), (∃ more, (runFrom ds ss vs out).1 = (runFrom (ds.take k) ss vs out).1 ++ more) ∧ ((runFrom ds ss vs out).2 = true → (runFrom (ds.take k) ss vs out).2 = true) ∧ ((runFrom (ds.take k) ss vs out).2 = false → runFrom ds ss vs out = runFrom (ds.take k) ss vs out) := by
  induction ds with
  | nil => intro k ss vs out; rw [List.take_nil]; exact ⟨⟨[], by simp⟩, fun h => h, fun _ => rfl⟩
  | cons d ds ih =>
    intro k ss vs out
    cases k with
    | zero =>
      rw [List.take_zero]
      refine ⟨?_, fun _ => rfl, fun h => by cases h⟩
      obtain ⟨more, h⟩ := runFrom_pre (d :: ds) ss vs out
      exact ⟨more, h⟩
    | succ k =>
      rw [List.take_succ_cons, runFrom, runFrom]
      cases saysD ss vs d with
      | none => exact ⟨⟨[], by simp⟩, fun h => h, fun _ => rfl⟩
      | some ns => exact ih k (toldS ss d) (toldI ss vs d) (out ++ ns)
theorem runP_take {xs : List St} {ds : List De} (h : doP xs = some ds) {k : Nat} (h1 : 1 ≤ k) (h2 : k ≤ xs.length) : (∃ more, (runP xs).1 = (runP (xs.take k)).1 ++ more) ∧ ((runP xs).2 = true → (runP (xs.take k)).2 = true) ∧ ((runP (xs.take k)).2 = false → runP xs = runP (xs.take k)) := by
  unfold runP
  rw [h, doP_take h h1 h2]
  exact runFrom_take ds k [] [] []
/-- The names that lines tell, their numbers, and their types. -/
def allS (ss : List ByteArray) (ds : List De) : List ByteArray := ds.foldl toldS ss
def allV (vs : List ByteArray) (ds : List De) : List ByteArray := ds.foldl toldV vs
def allI : List ByteArray → List Int → List De → List Int
  | _, vs, [] => vs
  | ss, vs, d :: ds => allI (toldS ss d) (toldI ss vs d) ds
theorem runFrom_append (ds es : List De) : ∀ (ss : List ByteArray) (vs out : List Int), (runFrom ds ss vs out).2 = true → runFrom (ds ++ es) ss vs out = runFrom es (allS ss ds) (allI ss vs ds) (runFrom ds ss vs out).1 := by
  induction ds with
  | nil => intro ss vs out _; rfl
  | cons d ds ih =>
    intro ss vs out h
    rw [List.cons_append, runFrom]
    rw [runFrom] at h ⊢
    cases hs : saysD ss vs d with
    | none => rw [hs] at h; cases h
    | some ns =>
      rw [hs] at h
      exact ih (toldS ss d) (toldI ss vs d) (out ++ ns) h
theorem runFrom_stuck (ds es : List De) : ∀ (ss : List ByteArray) (vs out : List Int), (runFrom ds ss vs out).2 = false → runFrom (ds ++ es) ss vs out = runFrom ds ss vs out := by
  induction ds with
  | nil => intro ss vs out h; cases h
  | cons d ds ih =>
    intro ss vs out h
    rw [List.cons_append, runFrom, runFrom]
    rw [runFrom] at h
    cases hs : saysD ss vs d with
    | none => rfl
    | some ns =>
      rw [hs] at h
      exact ih (toldS ss d) (toldI ss vs d) (out ++ ns) h
theorem allS_len (ds : List De) : ∀ {ss : List ByteArray} {vs : List Int}, ss.length = vs.length → (allS ss ds).length = (allI ss vs ds).length := by
  induction ds with
  | nil => intro ss vs h; exact h
  | cons d ds ih => intro ss vs h; exact ih (toldI_len h d)

/-- The first line that has not its types lies among the lines. -/
theorem typeFrom_range (ds : List De) : ∀ (ss vs : List ByteArray) (i : Nat), typeFrom ds ss vs i = -1 ∨ ((i : Int) ≤ typeFrom ds ss vs i ∧ typeFrom ds ss vs i < ((i + ds.length : Nat) : Int)) := by
  induction ds with
  | nil => intro ss vs i; exact .inl rfl
  | cons d ds ih =>
    intro ss vs i
    rw [typeFrom, List.length_cons]
    split
    · rcases ih (toldS ss d) (toldV vs d) (i + 1) with h | h
      · exact .inl h
      · exact .inr (by omega)
    · exact .inr (by omega)
theorem typeFrom_take (ds : List De) : ∀ (ss vs : List ByteArray) (i n : Nat), (typeFrom ds ss vs i = -1 ∨ ((i + n : Nat) : Int) ≤ typeFrom ds ss vs i) → typeFrom (ds.take n) ss vs i = -1 := by
  induction ds with
  | nil => intro ss vs i n _; rw [List.take_nil]; rfl
  | cons d ds ih =>
    intro ss vs i n h
    cases n with
    | zero => rw [List.take_zero]; rfl
    | succ n =>
      rw [typeFrom] at h
      rw [List.take_succ_cons, typeFrom]
      split at h
      · rename_i hf
        rw [if_pos hf]
        exact ih _ _ _ _ (by rw [show i + 1 + n = i + (n + 1) by omega]; exact h)
      · rcases h with h | h <;> omega
theorem typeFrom_append (ds es : List De) : ∀ (ss vs : List ByteArray) (i : Nat), typeFrom ds ss vs i = -1 → typeFrom (ds ++ es) ss vs i = typeFrom es (allS ss ds) (allV vs ds) (i + ds.length) := by
  induction ds with
  | nil => intro ss vs i _; rfl
  | cons d ds ih =>
    intro ss vs i h
    rw [typeFrom] at h
    rw [List.cons_append, typeFrom, List.length_cons]
    split at h
    · rename_i hf
      rw [if_pos hf, show i + (ds.length + 1) = i + 1 + ds.length by omega]
      exact ih _ _ _ h
    · omega
/-- With the lines told one later, the number is one higher. -/
theorem typeFrom_later (ds : List De) : ∀ (ss vs : List ByteArray) (i : Nat), (typeFrom ds ss vs i = -1 ∧ typeFrom ds ss vs (i + 1) = -1) ∨ ((i : Int) ≤ typeFrom ds ss vs i ∧ typeFrom ds ss vs (i + 1) = typeFrom ds ss vs i + 1) := by
  induction ds with
  | nil => intro ss vs i; exact .inl ⟨rfl, rfl⟩
  | cons d ds ih =>
    intro ss vs i
    rw [typeFrom, typeFrom]
    split
    · rcases ih (toldS ss d) (toldV vs d) (i + 1) with h | h
      · exact .inl h
      · exact .inr (by omega)
    · exact .inr (by omega)
theorem ne_int : sInt ≠ ByteArray.empty := by decide
theorem ne_bool : sBool ≠ ByteArray.empty := by decide
/-- What has a type can be reckoned. -/
theorem Pt.of_typ {names types : List ByteArray} {nums : List Int} (p : Pt) : p.typ names types ≠ ByteArray.empty → (p.of names nums).isSome = true := by
  induction p with
  | num n => intro _; rfl
  | name s =>
    intro h
    rw [Pt.typ] at h
    rw [Pt.of]
    cases hl : lastOf names s with
    | none => rw [hl] at h; exact absurd rfl h
    | some i => rfl
  | two s a b ia ib =>
    intro h
    rw [Pt.typ] at h
    split at h
    · rename_i hh
      have h1 := ia (by rw [hh.1]; exact ne_int)
      have h2 := ib (by rw [hh.2]; exact ne_int)
      obtain ⟨x, hx⟩ := Option.isSome_iff_exists.1 h1
      obtain ⟨y, hy⟩ := Option.isSome_iff_exists.1 h2
      simp only [Pt.of, hx, hy, Option.isSome_some]
    · exact absurd rfl h
  | «as» s a ia =>
    intro h
    rw [Pt.typ] at h
    rw [Pt.of]
    split at h
    · exact absurd rfl h
    · rename_i hh; exact ia hh
theorem fits_says {ss vs : List ByteArray} {ns : List Int} {d : De} (hf : d.fine = true) (h : fitsD ss vs d = true) : (saysD ss ns d).isSome = true := by
  cases d with
  | noD => rfl
  | letD n t p =>
    simp only [De.fine, Bool.and_eq_true] at hf
    simp only [fitsD, decide_eq_true_eq] at h
    have h1 := Pt.of_typ (nums := ns) p (by rw [h]; exact type_ne hf.2.1)
    simpa [saysD] using h1
  | sayD p =>
    simp only [fitsD, decide_eq_true_eq] at h
    have h1 := Pt.of_typ (nums := ns) p h
    simpa [saysD] using h1
  | whenD p q =>
    simp only [fitsD, Bool.and_eq_true, decide_eq_true_eq] at h
    have h1 := Pt.of_typ (nums := ns) p (by rw [h.1]; exact ne_bool)
    have h2 := Pt.of_typ (nums := ns) q h.2
    obtain ⟨x, hx⟩ := Option.isSome_iff_exists.1 h1
    obtain ⟨y, hy⟩ := Option.isSome_iff_exists.1 h2
    simp [saysD, hx, hy]
/-- What has its types runs to its end. -/
theorem typeFrom_run (ds : List De) : ∀ (ss vs : List ByteArray) (ns out : List Int) (i : Nat), (∀ d ∈ ds, d.fine = true) → typeFrom ds ss vs i = -1 → (runFrom ds ss ns out).2 = true := by
  induction ds with
  | nil => intro ss vs ns out i _ _; rfl
  | cons d ds ih =>
    intro ss vs ns out i hf h
    rw [typeFrom] at h
    split at h
    · rename_i hh
      obtain ⟨x, hx⟩ := Option.isSome_iff_exists.1 (fits_says (ns := ns) (hf d (by simp)) hh)
      rw [runFrom, hx]
      exact ih (toldS ss d) (toldV vs d) (toldI ss ns d) (out ++ x) (i + 1) (fun e he => hf e (by simp [he])) h
    · omega
theorem typeP_run {xs : List St} (h : typeP xs = -1) : (runP xs).2 = true := by
  unfold typeP at h
  unfold runP
  cases hd : doP xs with
  | none => rw [hd] at h; exact absurd (show (-2 : Int) = -1 from h) (by decide)
  | some ds =>
    rw [hd] at h
    exact typeFrom_run ds [] [] [] [] 0 (fun d hm => ((doP_fine hd).2 d hm).1) h
theorem typeP_range {xs : List St} {ds : List De} (hd : doP xs = some ds) : -1 ≤ typeP xs ∧ typeP xs < (xs.length : Int) := by
  unfold typeP
  rw [hd]
  have h1 := (doP_fine hd).1
  have h2 := (doP_some hd).2.1
  rcases typeFrom_range ds [] [] 0 with h | h
  · show -1 ≤ typeFrom ds [] [] 0 ∧ typeFrom ds [] [] 0 < _
    omega
  · show -1 ≤ typeFrom ds [] [] 0 ∧ typeFrom ds [] [] 0 < _
    omega
/-- The lines ahead of the first that has not its types have theirs. -/
theorem typeP_take {xs : List St} {n : Nat} (h : typeP xs = (n : Int)) (hn : 0 < n) : typeP (xs.take n) = -1 := by
  cases hd : doP xs with
  | none => unfold typeP at h; rw [hd] at h; have h' : (-2 : Int) = n := h; omega
  | some ds =>
    have hr := typeP_range hd
    have ht := doP_take hd (k := n) hn (by omega)
    unfold typeP at h ⊢
    rw [hd] at h
    rw [ht]
    exact typeFrom_take ds [] [] 0 n (.inr (by have h' : typeFrom ds [] [] 0 = (n : Int) := h; rw [h']; omega))
/-- An empty line ahead turns nothing. -/
theorem run_empty (ds : List De) : runFrom (.noD :: ds) [] [] [] = runFrom ds [] [] [] := rfl
theorem type_empty (ds : List De) : typeFrom (.noD :: ds) [] [] 0 = typeFrom ds [] [] 1 := rfl
/-- What is said is said as of a type. -/
def castD : De → De
  | .sayD p => .sayD (.as sBool p)
  | d => d
theorem cast_fits (ss vs : List ByteArray) (d : De) : fitsD ss vs (castD d) = fitsD ss vs d := by
  cases d with
  | sayD p =>
    show decide (¬ (if p.typ ss vs = ByteArray.empty then ByteArray.empty else sBool) = ByteArray.empty) = decide (¬ p.typ ss vs = ByteArray.empty)
    by_cases h : p.typ ss vs = ByteArray.empty
    · simp [h]
    · simp [h, ne_bool]
  | _ => rfl
theorem cast_told (ss vs : List ByteArray) (ns : List Int) (d : De) : toldS ss (castD d) = toldS ss d ∧ toldV vs (castD d) = toldV vs d ∧ toldI ss ns (castD d) = toldI ss ns d ∧ saysD ss ns (castD d) = saysD ss ns d := by
  cases d <;> exact ⟨rfl, rfl, rfl, rfl⟩
theorem cast_type (ds : List De) : ∀ (ss vs : List ByteArray) (i : Nat), typeFrom (ds.map castD) ss vs i = typeFrom ds ss vs i := by
  induction ds with
  | nil => intro ss vs i; rfl
  | cons d ds ih => intro ss vs i; rw [List.map_cons, typeFrom, typeFrom, cast_fits, (cast_told ss vs [] d).1, (cast_told ss vs [] d).2.1, ih]
theorem cast_run (ds : List De) : ∀ (ss : List ByteArray) (vs out : List Int), runFrom (ds.map castD) ss vs out = runFrom ds ss vs out := by
  induction ds with
  | nil => intro ss vs out; rfl
  | cons d ds ih =>
    intro ss vs out
    rw [List.map_cons, runFrom, runFrom, (cast_told ss [] vs d).1, (cast_told ss [] vs d).2.2.1, (cast_told ss [] vs d).2.2.2]
    cases saysD ss vs d with
    | none => rfl
    | some ns => exact ih _ _ _
end Go.Proofs.YtabignplhkbcpaaGreatDoor

namespace Go.Proofs.YtabignplhkbcpaaGreatDoor

theorem runP_ok {xs : List St} (h : (runP xs).2 = true) : ∃ ds, doP xs = some ds ∧ runP xs = runFrom ds [] [] [] := by
  unfold runP at h ⊢
  cases hd : doP xs with
  | none => rw [hd] at h; cases h
  | some ds => exact ⟨ds, rfl, rfl⟩
theorem doP_more {xs : List St} {ds : List De} {s : St} {d : De} (h : doP xs = some ds) (hs : doS s = some d) (hl : xs.length < 16) : doP (xs ++ [s]) = some (ds ++ [d]) := by
  obtain ⟨h1, h2, h3⟩ := doP_some h
  unfold doP
  rw [if_pos ⟨by simp, by simp; omega⟩]
  refine deedsL_append xs [s] ds [d] h1 ?_
  simp [deedsL, hs]
/-- One more line. -/
theorem run_more {xs : List St} {s : St} {d : De} (h : (runP xs).2 = true) (hs : doS s = some d) (hl : xs.length < 16) : ∃ ss vs, runP (xs ++ [s]) = runFrom [d] ss vs (runP xs).1 := by
  obtain ⟨ds, hd, hr⟩ := runP_ok h
  refine ⟨allS [] ds, allI [] [] ds, ?_⟩
  unfold runP
  rw [doP_more hd hs hl, hd]
  rw [hr] at h
  exact runFrom_append ds [d] [] [] [] h
def whenS (z : Int) : St := ⟨3, ⟨#[]⟩, ⟨#[]⟩, .mk 1 z ⟨#[]⟩ [], .mk 1 1 ⟨#[]⟩ []⟩
theorem do_when0 : doS (whenS 0) = some (.whenD (.num 0) (.num 1)) := by kernel_rfl
theorem do_when1 : doS (whenS 1) = some (.whenD (.num 1) (.num 1)) := by kernel_rfl
theorem run_when0 {xs : List St} (h : (runP xs).2 = true) (hl : xs.length < 16) : runP (xs ++ [whenS 0]) = ((runP xs).1, true) := by
  obtain ⟨ss, vs, e⟩ := run_more h do_when0 hl
  rw [e, runFrom]
  simp [saysD, Pt.of, runFrom]
theorem run_when1 {xs : List St} (h : (runP xs).2 = true) (hl : xs.length < 16) : runP (xs ++ [whenS 1]) = ((runP xs).1 ++ [1], true) := by
  obtain ⟨ss, vs, e⟩ := run_more h do_when1 hl
  rw [e, runFrom]
  simp [saysD, Pt.of, runFrom]
end Go.Proofs.YtabignplhkbcpaaGreatDoor
