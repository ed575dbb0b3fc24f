/-
  Plain mathematics of what is reckoned: parts, their words, when they are ok, and what they come to. No Go.
-/
import Derived.Test.YtaclndbilpaboaaGreatDoorTextMath
import Derived.Test.YtaclndbilpaboaaGreatDoorTokMath
namespace Go.Proofs.YtaclndbilpaboaaGreatDoor

def sInt : ByteArray := ⟨#[105, 110, 116]⟩
def sBool : ByteArray := ⟨#[98, 111, 111, 108]⟩
def sAs : ByteArray := ⟨#[97, 115]⟩
def sLet : ByteArray := ⟨#[108, 101, 116]⟩
def sSay : ByteArray := ⟨#[115, 97, 121]⟩
def sWhen : ByteArray := ⟨#[119, 104, 101, 110]⟩
def sPrint : ByteArray := ⟨#[112, 114, 105, 110, 116]⟩
def sIf : ByteArray := ⟨#[105, 102]⟩
def sLp : ByteArray := ⟨#[40]⟩
def sRp : ByteArray := ⟨#[41]⟩
def sPlus : ByteArray := ⟨#[43]⟩
def sMinus : ByteArray := ⟨#[45]⟩
def sTimes : ByteArray := ⟨#[42]⟩
def sLess : ByteArray := ⟨#[60]⟩

/-- What is reckoned, as Go holds it. -/
inductive Ex where
  | mk (kind n : Int) (s : ByteArray) (kids : List Ex)
def Ex.kind : Ex → Int | .mk k _ _ _ => k
def Ex.n : Ex → Int | .mk _ n _ _ => n
def Ex.s : Ex → ByteArray | .mk _ _ s _ => s
def Ex.kids : Ex → List Ex | .mk _ _ _ ks => ks
theorem Ex.eta (e : Ex) : e = .mk e.kind e.n e.s e.kids := by cases e; rfl
def Ex.zero : Ex := .mk 0 0 ByteArray.empty []

theorem Ex.ind {P : Ex → Prop} (h : ∀ k n s ks, (∀ e ∈ ks, P e) → P (.mk k n s ks)) : ∀ e, P e := by
  intro e
  refine Ex.rec (motive_1 := P) (motive_2 := fun ks => ∀ e ∈ ks, P e) (fun k n s ks ih => h k n s ks ih) (fun e he => by cases he) (fun e es i1 i2 x hx => ?_) e
  rcases List.mem_cons.1 hx with rfl | hx
  · exact i1
  · exact i2 x hx

mutual
/-- How many bytes its texts have, and one for each kid. -/
def Ex.wt : Ex → Nat
  | .mk _ _ s ks => s.size + Ex.wts ks
def Ex.wts : List Ex → Nat
  | [] => 0
  | e :: es => 1 + Ex.wt e + Ex.wts es
end
mutual
/-- How many parts there are. -/
def Ex.nodes : Ex → Nat
  | .mk _ _ _ ks => 1 + Ex.nodess ks
def Ex.nodess : List Ex → Nat
  | [] => 0
  | e :: es => Ex.nodes e + Ex.nodess es
end
theorem Ex.wts_append (xs ys : List Ex) : Ex.wts (xs ++ ys) = Ex.wts xs + Ex.wts ys := by
  induction xs with
  | nil => simp [Ex.wts]
  | cons x xs ih => simp only [List.cons_append, Ex.wts, ih]; omega
theorem Ex.wts_length (xs : List Ex) : xs.length ≤ Ex.wts xs := by
  induction xs with
  | nil => simp
  | cons x xs ih => simp only [List.length_cons, Ex.wts]; omega
theorem Ex.wt_mem {x : Ex} {xs : List Ex} (h : x ∈ xs) : x.wt + 1 ≤ Ex.wts xs := by
  induction xs with
  | nil => cases h
  | cons y ys ih =>
    rcases List.mem_cons.1 h with rfl | h
    · simp only [Ex.wts]; omega
    · have := ih h; simp only [Ex.wts]; omega
theorem Ex.wt_kid {k n : Int} {s : ByteArray} {ks : List Ex} {x : Ex} (h : x ∈ ks) : x.wt + 1 ≤ (Ex.mk k n s ks).wt := by
  have := Ex.wt_mem h
  simp only [Ex.wt]; omega
theorem Ex.nodess_append (xs ys : List Ex) : Ex.nodess (xs ++ ys) = Ex.nodess xs + Ex.nodess ys := by
  induction xs with
  | nil => simp [Ex.nodess]
  | cons x xs ih => simp only [List.cons_append, Ex.nodess, ih]; omega
theorem Ex.nodes_le (e : Ex) : e.nodes ≤ e.wt + 1 := by
  induction e using Ex.ind with
  | h k n s ks ih =>
    have : Ex.nodess ks ≤ Ex.wts ks := by
      clear n s
      induction ks with
      | nil => simp [Ex.nodess]
      | cons y ys ih2 =>
        have h1 := ih y (by simp)
        have h2 := ih2 (fun e he => ih e (by simp [he]))
        simp only [Ex.nodess, Ex.wts]; omega
    simp only [Ex.nodes, Ex.wt]; omega

/-- A part: what is right of what is reckoned. -/
inductive Pt where
  | num (n : Int)
  | name (s : ByteArray)
  | two (s : ByteArray) (a b : Pt)
  | as (s : ByteArray) (a : Pt)

def Pt.ex : Pt → Ex
  | .num n => .mk 1 n ByteArray.empty []
  | .name s => .mk 2 0 s []
  | .two s a b => .mk 3 0 s [a.ex, b.ex]
  | .as s a => .mk 4 0 s [a.ex]
theorem Pt.ex_inj : ∀ (p q : Pt), p.ex = q.ex → p = q := by
  intro p
  induction p with
  | num n => intro q h; cases q <;> simp [Pt.ex] at h; rw [h]
  | name s => intro q h; cases q <;> simp [Pt.ex] at h; rw [h]
  | two s a b ia ib => intro q h; cases q <;> simp [Pt.ex] at h; rw [h.1, ia _ h.2.1, ib _ h.2.2]
  | as s a ia => intro q h; cases q <;> simp [Pt.ex] at h; rw [h.1, ia _ h.2]

def typeB (s : ByteArray) : Bool := decide (s = sInt) || decide (s = sBool)
def heldB (s : ByteArray) : Bool := decide (s = sLet) || (decide (s = sSay) || (decide (s = sWhen) || (decide (s = sAs) || (decide (s = sPrint) || (decide (s = sIf) || typeB s)))))
def nameB (s : ByteArray) : Bool := wordL (L s) && !heldB s
/-- How tight a mark holds; 0, if it is none. -/
def hold (s : ByteArray) : Nat := if s = sLess then 1 else if s = sPlus then 2 else if s = sMinus then 2 else if s = sTimes then 3 else 0
theorem hold_le (s : ByteArray) : hold s ≤ 3 := by unfold hold; split <;> (try split) <;> (try split) <;> (try split) <;> omega

def Pt.fine : Pt → Bool
  | .num n => decide (0 ≤ n) && decide (n ≤ 1000000)
  | .name s => nameB s
  | .two s a b => decide (hold s ≠ 0) && (a.fine && b.fine)
  | .as s a => typeB s && a.fine
def Pt.depth : Pt → Nat
  | .num _ => 1
  | .name _ => 1
  | .two _ a b => max a.depth b.depth + 1
  | .as _ a => a.depth + 1
def Pt.nodes : Pt → Nat
  | .num _ => 1
  | .name _ => 1
  | .two _ a b => a.nodes + b.nodes + 1
  | .as _ a => a.nodes + 1
theorem Pt.nodes_ex (p : Pt) : p.ex.nodes = p.nodes := by
  induction p with
  | num n => rfl
  | name s => rfl
  | two s a b ia ib => simp only [Pt.ex, Ex.nodes, Ex.nodess, Pt.nodes, ia, ib]; omega
  | as s a ia => simp only [Pt.ex, Ex.nodes, Ex.nodess, Pt.nodes, ia]; omega
theorem Pt.nodes_pos (p : Pt) : 1 ≤ p.nodes := by cases p <;> simp [Pt.nodes]
theorem Pt.depth_pos (p : Pt) : 1 ≤ p.depth := by cases p <;> simp [Pt.depth]
def Pt.ok (p : Pt) : Bool := p.fine && (decide (p.depth ≤ 5) && decide (p.nodes ≤ 12))

def twoOf (f : Ex → Option Pt) (s : ByteArray) : List Ex → Option Pt
  | [a, b] => (f a).bind fun p => (f b).map fun q => .two s p q
  | _ => none
def asOf (f : Ex → Option Pt) (s : ByteArray) : List Ex → Option Pt
  | [a] => (f a).map fun p => .as s p
  | _ => none
def ptStep (f : Ex → Option Pt) (k n : Int) (s : ByteArray) (ks : List Ex) : Option Pt :=
  if k = 1 then (if 0 ≤ n ∧ n ≤ 1000000 ∧ s = ByteArray.empty ∧ ks = [] then some (.num n) else none)
  else if k = 2 then (if n = 0 ∧ nameB s = true ∧ ks = [] then some (.name s) else none)
  else if k = 3 then (if n = 0 ∧ hold s ≠ 0 then twoOf f s ks else none)
  else if k = 4 then (if n = 0 ∧ typeB s = true then asOf f s ks else none)
  else none
/-- The part that it is, not deeper than so. -/
def ptOf : Nat → Ex → Option Pt
  | 0, _ => none
  | d + 1, e => ptStep (ptOf d) e.kind e.n e.s e.kids
theorem ptOf_ex (d : Nat) : ∀ (e : Ex) (p : Pt), ptOf d e = some p → e = p.ex ∧ p.fine = true ∧ p.depth ≤ d := by
  induction d with
  | zero => intro e p h; simp [ptOf] at h
  | succ d ih =>
    intro e p h
    obtain ⟨k, n, s, ks⟩ := e
    rw [ptOf] at h
    simp only [Ex.kind, Ex.n, Ex.s, Ex.kids] at h
    unfold ptStep at h
    split at h
    · rename_i hk; subst hk
      split at h
      · rename_i hh; obtain ⟨h1, h2, rfl, rfl⟩ := hh
        cases h
        exact ⟨rfl, by simp [Pt.fine, h1, h2], by simp [Pt.depth]⟩
      · cases h
    · split at h
      · rename_i _ hk; subst hk
        split at h
        · rename_i hh; obtain ⟨rfl, h2, rfl⟩ := hh
          cases h
          exact ⟨rfl, h2, by simp [Pt.depth]⟩
        · cases h
      · split at h
        · rename_i _ _ hk; subst hk
          split at h
          · rename_i hh
            obtain ⟨rfl, h2⟩ := hh
            unfold twoOf at h
            split at h
            · rename_i a b
              obtain ⟨pa, ea, h⟩ := Option.bind_eq_some_iff.1 h
              obtain ⟨pb, eb, h⟩ := Option.map_eq_some_iff.1 h
              subst h
              obtain ⟨rfl, f1, d1⟩ := ih _ _ ea
              obtain ⟨rfl, f2, d2⟩ := ih _ _ eb
              exact ⟨rfl, by simp [Pt.fine, h2, f1, f2], by simp [Pt.depth]; omega⟩
            · cases h
          · cases h
        · split at h
          · rename_i _ _ _ hk; subst hk
            split at h
            · rename_i hh
              obtain ⟨rfl, h2⟩ := hh
              unfold asOf at h
              split at h
              · obtain ⟨pa, ea, h⟩ := Option.map_eq_some_iff.1 h
                subst h
                obtain ⟨rfl, f1, d1⟩ := ih _ _ ea
                exact ⟨rfl, by simp [Pt.fine, h2, f1], by simp [Pt.depth]; omega⟩
              · cases h
            · cases h
          · cases h
theorem ptOf_of (p : Pt) : ∀ d, p.fine = true → p.depth ≤ d → ptOf d p.ex = some p := by
  induction p with
  | num n =>
    intro d h1 h2
    obtain ⟨d, rfl⟩ : ∃ x, d = x + 1 := ⟨d - 1, by simp [Pt.depth] at h2; omega⟩
    simp [Pt.fine] at h1
    simp [Pt.ex, ptOf, ptStep, Ex.kind, Ex.n, Ex.s, Ex.kids, h1]
  | name s =>
    intro d h1 h2
    obtain ⟨d, rfl⟩ : ∃ x, d = x + 1 := ⟨d - 1, by simp [Pt.depth] at h2; omega⟩
    simp [Pt.fine] at h1
    simp [Pt.ex, ptOf, ptStep, Ex.kind, Ex.n, Ex.s, Ex.kids, h1]
  | two s a b ia ib =>
    intro d h1 h2
    obtain ⟨d, rfl⟩ : ∃ x, d = x + 1 := ⟨d - 1, by simp [Pt.depth] at h2; omega⟩
    simp [Pt.fine] at h1
    simp [Pt.depth] at h2
    simp [Pt.ex, ptOf, ptStep, twoOf, Ex.kind, Ex.n, Ex.s, Ex.kids, h1, ia d h1.2.1 (by omega), ib d h1.2.2 (by omega)]
  | as s a ia =>
    intro d h1 h2
    obtain ⟨d, rfl⟩ : ∃ x, d = x + 1 := ⟨d - 1, by simp [Pt.depth] at h2; omega⟩
    simp [Pt.fine] at h1
    simp [Pt.depth] at h2
    simp [Pt.ex, ptOf, ptStep, asOf, Ex.kind, Ex.n, Ex.s, Ex.kids, h1, ia d h1.2 (by omega)]
/-- Whether it can be reckoned. -/
def okE (e : Ex) : Bool := (ptOf 5 e).isSome && decide (e.nodes ≤ 12)
theorem okE_iff (e : Ex) : okE e = true ↔ ∃ p : Pt, e = p.ex ∧ p.ok = true := by
  unfold okE Pt.ok
  rw [Bool.and_eq_true, decide_eq_true_eq]
  constructor
  · rintro ⟨h1, h2⟩
    obtain ⟨p, hp⟩ := Option.isSome_iff_exists.1 h1
    obtain ⟨rfl, f, d⟩ := ptOf_ex _ _ _ hp
    rw [Pt.nodes_ex] at h2
    exact ⟨p, rfl, by simp [f, d, h2]⟩
  · rintro ⟨p, rfl, h⟩
    simp only [Bool.and_eq_true, decide_eq_true_eq] at h
    rw [ptOf_of p 5 h.1 h.2.1, Pt.nodes_ex]
    exact ⟨rfl, h.2.2⟩

/-- The part that it is, if it is ok. -/
def okP (e : Ex) : Option Pt := if e.nodes ≤ 12 then ptOf 5 e else none
theorem okP_isSome (e : Ex) : (okP e).isSome = okE e := by
  unfold okP okE
  split
  · rename_i h; simp [h]
  · rename_i h; simp [h]
theorem okP_some {e : Ex} {p : Pt} (h : okP e = some p) : e = p.ex ∧ p.ok = true := by
  unfold okP at h
  split at h
  · rename_i hn
    obtain ⟨rfl, f, d⟩ := ptOf_ex _ _ _ h
    rw [Pt.nodes_ex] at hn
    exact ⟨rfl, by simp [Pt.ok, f, d, hn]⟩
  · cases h
theorem okP_ex {p : Pt} (h : p.ok = true) : okP p.ex = some p := by
  simp only [Pt.ok, Bool.and_eq_true, decide_eq_true_eq] at h
  unfold okP
  rw [Pt.nodes_ex, if_pos h.2.2]
  exact ptOf_of p 5 h.1 h.2.1

/-- How tight a part holds. -/
def Pt.lvl : Pt → Nat
  | .two s _ _ => hold s
  | _ => 4
def decS (n : Int) : ByteArray := ⟨(Lib.decDigits n.toNat).toArray⟩
def wrapW (b : Bool) (ws : List ByteArray) : List ByteArray := if b then [sLp] ++ ws ++ [sRp] else ws
/-- The words, without brackets around them. -/
def Pt.words : Pt → List ByteArray
  | .num n => [decS n]
  | .name s => [s]
  | .two s a b => wrapW (decide (a.lvl < max (hold s) 2)) a.words ++ [s] ++ wrapW (decide (b.lvl < hold s + 1)) b.words
  | .as s a => wrapW (decide (a.lvl < 4)) a.words ++ [sAs, s]
def Pt.at (p : Pt) (t : Nat) : List ByteArray := wrapW (decide (p.lvl < t)) p.words
theorem Pt.words_pos (p : Pt) : 1 ≤ p.words.length := by cases p <;> simp [Pt.words] <;> omega
theorem wrapW_length (b : Bool) (ws : List ByteArray) : (wrapW b ws).length ≤ ws.length + 2 := by unfold wrapW; split <;> simp
theorem Pt.words_length (p : Pt) : p.words.length ≤ 6 * p.nodes := by
  induction p with
  | num n => simp [Pt.words, Pt.nodes]
  | name s => simp [Pt.words, Pt.nodes]
  | two s a b ia ib =>
    have h1 := wrapW_length (decide (a.lvl < max (hold s) 2)) a.words
    have h2 := wrapW_length (decide (b.lvl < hold s + 1)) b.words
    simp only [Pt.words, Pt.nodes, List.length_append, List.length_cons, List.length_nil]; omega
  | as s a ia =>
    have h1 := wrapW_length (decide (a.lvl < 4)) a.words
    simp only [Pt.words, Pt.nodes, List.length_append, List.length_cons, List.length_nil]; omega

/-- Without types. -/
def Pt.bare : Pt → Pt
  | .num n => .num n
  | .name s => .name s
  | .two s a b => .two s a.bare b.bare
  | .as _ a => a.bare
/-- The last place of a name. -/
def findL (names : List ByteArray) (s : ByteArray) : Nat → Option Nat
  | 0 => none
  | k + 1 => if names.getD k ByteArray.empty = s then some k else findL names s k
def lastOf (names : List ByteArray) (s : ByteArray) : Option Nat := findL names s names.length
theorem findL_lt {names : List ByteArray} {s : ByteArray} : ∀ {k i : Nat}, findL names s k = some i → i < k := by
  intro k
  induction k with
  | zero => intro i h; cases h
  | succ k ih =>
    intro i h
    rw [findL] at h
    split at h
    · cases h; omega
    · have := ih h; omega
def Pt.typ (names types : List ByteArray) : Pt → ByteArray
  | .num _ => sInt
  | .name s => match lastOf names s with
    | some i => types.getD i ByteArray.empty
    | none => ByteArray.empty
  | .as s a => if a.typ names types = ByteArray.empty then ByteArray.empty else s
  | .two s a b => if a.typ names types = sInt ∧ b.typ names types = sInt then (if s = sLess then sBool else sInt) else ByteArray.empty
def cutN (n : Int) : Int := max (-1000000) (min 1000000 n)
def twoN (s : ByteArray) (a b : Int) : Int := if s = sPlus then cutN (a + b) else if s = sMinus then cutN (a - b) else if s = sTimes then cutN (a * b) else if a < b then 1 else 0
def Pt.of (names : List ByteArray) (nums : List Int) : Pt → Option Int
  | .num n => some n
  | .name s => (lastOf names s).map (fun i => cutN (nums.getD i 0))
  | .as _ a => a.of names nums
  | .two s a b => match a.of names nums, b.of names nums with
    | some x, some y => some (twoN s x y)
    | _, _ => none
theorem cutN_bounds (n : Int) : -1000000 ≤ cutN n ∧ cutN n ≤ 1000000 := by unfold cutN; omega
theorem cutN_in {n : Int} (h0 : -1000000 ≤ n) (h1 : n ≤ 1000000) : cutN n = n := by unfold cutN; omega
theorem twoN_bounds (s : ByteArray) (a b : Int) : -1000000 ≤ twoN s a b ∧ twoN s a b ≤ 1000000 := by
  unfold twoN
  split
  · exact cutN_bounds _
  · split
    · exact cutN_bounds _
    · split
      · exact cutN_bounds _
      · split <;> omega
theorem Pt.of_bounds (names : List ByteArray) (nums : List Int) (p : Pt) : p.fine = true → ∀ v, p.of names nums = some v → -1000000 ≤ v ∧ v ≤ 1000000 := by
  induction p with
  | num n => intro h v hv; simp [Pt.fine] at h; simp [Pt.of] at hv; omega
  | name s =>
    intro h v hv
    simp only [Pt.of, Option.map_eq_some_iff] at hv
    obtain ⟨i, _, rfl⟩ := hv
    exact cutN_bounds _
  | as s a ia => intro h v hv; simp [Pt.fine] at h; exact ia h.2 v hv
  | two s a b ia ib =>
    intro h v hv
    rw [Pt.of] at hv
    split at hv
    · cases hv; exact twoN_bounds _ _ _
    · cases hv
end Go.Proofs.YtaclndbilpaboaaGreatDoor
