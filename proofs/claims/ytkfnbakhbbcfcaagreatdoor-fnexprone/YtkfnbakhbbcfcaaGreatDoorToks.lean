/-
  Lists of words in memory, and the contracts of the helpers of the exact laws over them.
-/
import Derived.Test.YtkfnbakhbbcfcaaGreatDoorBase
import Derived.Laws.StructEq
namespace Go.Proofs.YtkfnbakhbbcfcaaGreatDoor
open Go.RowKit

/-- A word as Go holds it: its kind, its text, its place. -/
abbrev Tv := Int × ByteArray × Int
def tvC (x : Tv) : List Value := [.int .i64 x.1, .string x.2.1, .int .i64 x.2.2]
def rowT (xs : List Tv) : List Value := xs.flatMap tvC
theorem rowT_length (xs : List Tv) : (rowT xs).length = xs.length * 3 := by
  induction xs with
  | nil => rfl
  | cons x xs ih => simp [rowT, tvC] at ih ⊢; omega
theorem rowT_append (xs ys : List Tv) : rowT (xs ++ ys) = rowT xs ++ rowT ys := by simp [rowT]
theorem rowT_cons (x : Tv) (xs : List Tv) : rowT (x :: xs) = tvC x ++ rowT xs := by simp [rowT]
theorem rowT_get (xs : List Tv) : ∀ (k : Nat) (hk : k < xs.length) (i : Nat), i < 3 → (rowT xs)[k * 3 + i]? = (tvC xs[k])[i]? := by
  induction xs with
  | nil => intro k hk; simp at hk
  | cons x xs ih =>
    intro k hk i hi
    rw [rowT_cons]
    cases k with
    | zero =>
      rw [Nat.zero_mul, Nat.zero_add, List.getElem?_append_left (by simpa [tvC] using hi)]
      rfl
    | succ k =>
      rw [List.getElem?_append_right (by simp [tvC]; omega), show (k + 1) * 3 + i - (tvC x).length = k * 3 + i by simp [tvC]; omega]
      exact ih k (by simpa using hk) i hi

theorem rowT_set (ys : List Tv) : ∀ (k : Nat) (x : Tv), k < ys.length → (((rowT ys).set (k * 3) (.int .i64 x.1)).set (k * 3 + 1) (.string x.2.1)).set (k * 3 + 2) (.int .i64 x.2.2) = rowT (ys.set k x) := by
  induction ys with
  | nil => intro k x h; simp at h
  | cons y ys ih =>
    intro k x h
    cases k with
    | zero => rfl
    | succ k =>
      rw [rowT_cons, List.set_cons_succ, rowT_cons, ← ih k x (by simpa using h), show (k + 1) * 3 = (tvC y).length + k * 3 by simp [tvC]; omega]
      rw [show (tvC y).length + k * 3 + 1 = (tvC y).length + (k * 3 + 1) by omega, show (tvC y).length + k * 3 + 2 = (tvC y).length + (k * 3 + 2) by omega]
      rw [List.set_append_right _ _ (by omega), List.set_append_right _ _ (by omega), List.set_append_right _ _ (by omega)]
      simp only [Nat.add_sub_cancel_left]

/-- The three cells of the word at place k. -/
theorem SlIs.tok {w : World} {A : Option Addr} {xs : List Tv} (h : SlIs w A (rowT xs)) {k : Nat} (hk : k < xs.length) :
    ∃ g off, A = some ⟨g, off, none⟩ ∧ g < w.heap.size ∧ w.cell? ⟨g, off + k * 3, none⟩ = some (.int .i64 xs[k].1) ∧ w.cell? ⟨g, off + k * 3 + 1, none⟩ = some (.string xs[k].2.1) ∧ w.cell? ⟨g, off + k * 3 + 2, none⟩ = some (.int .i64 xs[k].2.2) := by
  have hl := rowT_length xs
  rcases h with h | ⟨g, off, e, hg, hc⟩
  · rw [h] at hl; simp at hl; omega
  · have g0 := rowT_get xs k hk 0 (by omega)
    have g1 := rowT_get xs k hk 1 (by omega)
    have g2 := rowT_get xs k hk 2 (by omega)
    refine ⟨g, off, e, hg, hc _ _ g0, ?_, ?_⟩
    · rw [Nat.add_assoc]; exact hc _ _ g1
    · rw [Nat.add_assoc]; exact hc _ _ g2
theorem SlIs.ownK {w : World} {base : Nat} {e : TypeId} {sz : Nat} {A : Option Addr} {n c : Nat} {xs : List Value} (h : w.ownsRow base e sz (.slice A n c) n xs) : SlIs w A xs := by
  rcases h.2 with ⟨hv, hn⟩ | ⟨g, cap, cur, hv, hb, hg, hnc, hcm, hcs, htake⟩
  · exact .inl (List.eq_nil_of_length_eq_zero (by rw [h.1, hn]; simp))
  · injection hv with h1 h2 h3
    subst h1
    refine .inr ⟨g, 0, rfl, (Array.getElem?_eq_some_iff.1 hg).1, fun j u hu => ?_⟩
    rw [← htake, List.getElem?_take] at hu
    split at hu
    · simp only [World.cell?, hg, Nat.zero_add]
      simpa using hu
    · cases hu
/-- The list without its first word. -/
theorem SlIs.tail {w : World} {g off : Nat} {x : Tv} {xs : List Tv} (h : SlIs w (some ⟨g, off, none⟩) (rowT (x :: xs))) : SlIs w (some ⟨g, off + 3, none⟩) (rowT xs) := by
  rcases h with h | ⟨g', off', e, hg, hc⟩
  · simp [rowT, tvC] at h
  · injection e with e
    injection e with e1 e2
    subst e1 e2
    refine .inr ⟨g, off + 3, rfl, hg, fun j u hu => ?_⟩
    have := hc (3 + j) u (by rw [rowT_cons, List.getElem?_append_right (by simp [tvC])]; simpa [tvC] using hu)
    rwa [show off + (3 + j) = off + 3 + j by omega] at this
theorem own_sliceK {w : World} {base : Nat} {e : TypeId} {sz : Nat} {v : Value} {n : Nat} {xs : List Value} (h : w.ownsRow base e sz v n xs) : ∃ A c, v = .slice A n c ∧ n ≤ c := by
  rcases h.2 with ⟨rfl, rfl⟩ | ⟨g, cap, _, rfl, _, _, hc, _⟩
  · exact ⟨none, 0, rfl, Nat.le_refl _⟩
  · exact ⟨_, cap, rfl, hc⟩

def eqTv (x y : Tv) : Bool := x.1 == y.1 && (x.2.1.toList == y.2.1.toList && x.2.2 == y.2.2)
theorem eqTv_iff (x y : Tv) : eqTv x y = true ↔ x = y := by
  obtain ⟨a, s, c⟩ := x
  obtain ⟨a', s', c'⟩ := y
  simp only [eqTv, Bool.and_eq_true, beq_iff_eq, Prod.mk.injEq]
  constructor
  · rintro ⟨h1, h2, h3⟩
    refine ⟨h1, ?_, h3⟩
    rw [ByteArray.toList_eq, ByteArray.toList_eq] at h2
    exact ByteArray.ext (Array.toList_inj.1 h2)
  · rintro ⟨rfl, rfl, rfl⟩; exact ⟨rfl, rfl, rfl⟩


theorem neqTok (a c a' c' : Int) (s s' : ByteArray) (w : World) : Sem.run Tryz.prog (binOp .neq 79 (.agg #[.int .i64 a, .string s, .int .i64 c]) (.agg #[.int .i64 a', .string s', .int .i64 c'])) w = .ok (.bool (!eqTv (a, s, c) (a', s', c'))) w := by
  have u3 := Tryz.underlying3
  have a3 := Tryz.isAgg3
  have z3 := Tryz.sizeOf3
  have u9 := Tryz.underlying9
  have a9 := Tryz.isAgg9
  have z9 := Tryz.sizeOf9
  have hS : Tryz.prog.underlying 79 = some (.struct (Tryz.prog.fieldsOf 79)) := by kernel_rfl
  have hp : Tryz.prog.stoodInHeld 79 = false := by kernel_rfl
  rw [run_neq_struct, show (10000 : Nat) = 9999 + 1 from rfl, run_equalIn_agg w 9999 79 _ _ hS hp]
  simp only [Program.fieldsOf, Tryz.underlying79]
  go_simp
  by_cases h1 : a = a' <;> by_cases h2 : s.toList = s'.toList <;> by_cases h3 : c = c' <;> simp [eqTv, h1, h2, h3]
theorem eqlTok (a c a' c' : Int) (s s' : ByteArray) (w : World) : Sem.run Tryz.prog (binOp .eql 79 (.agg #[.int .i64 a, .string s, .int .i64 c]) (.agg #[.int .i64 a', .string s', .int .i64 c'])) w = .ok (.bool (eqTv (a, s, c) (a', s', c'))) w := by
  have u3 := Tryz.underlying3
  have a3 := Tryz.isAgg3
  have z3 := Tryz.sizeOf3
  have u9 := Tryz.underlying9
  have a9 := Tryz.isAgg9
  have z9 := Tryz.sizeOf9
  have hS : Tryz.prog.underlying 79 = some (.struct (Tryz.prog.fieldsOf 79)) := by kernel_rfl
  have hp : Tryz.prog.stoodInHeld 79 = false := by kernel_rfl
  rw [run_eql_struct, show (10000 : Nat) = 9999 + 1 from rfl, run_equalIn_agg w 9999 79 _ _ hS hp]
  simp only [Program.fieldsOf, Tryz.underlying79]
  go_simp
  by_cases h1 : a = a' <;> by_cases h2 : s.toList = s'.toList <;> by_cases h3 : c = c' <;> simp [eqTv, h1, h2, h3]
theorem guardTok (op : BinOp) (x y : Operand) (xs ys : Array Value) (w : World) : Sem.run Tryz.prog (eqGuard op 79 x y (.agg xs) (.agg ys)) w = .ok () w := run_eqGuard_agg w op _ x y xs ys (by kernel_rfl)

theorem infoTok : (Tryz.prog.info? 79).map (fun i => (i.zero, i.size, i.bytes)) = some (some (.agg #[.int .i64 0, .string ByteArray.empty, .int .i64 0]), 3, 32) := by kernel_rfl
/-- Two lists are one. -/
def sameT (xs ys : List Tv) : Bool := decide (xs = ys)
theorem sameT_short {xs ys : List Tv} (h : xs.length ≠ ys.length) : sameT xs ys = false := by
  simp only [sameT, decide_eq_false_iff_not]
  intro e; exact h (by rw [e])
theorem sameT_at {xs ys : List Tv} {k : Nat} (h1 : k < xs.length) (h2 : k < ys.length) (h : eqTv xs[k] ys[k] = false) : sameT xs ys = false := by
  simp only [sameT, decide_eq_false_iff_not]
  rintro rfl
  rw [(eqTv_iff _ _).2 rfl] at h
  cases h
theorem sameT_all {xs ys : List Tv} (hl : xs.length = ys.length) (h : ∀ j (h1 : j < xs.length) (h2 : j < ys.length), eqTv xs[j] ys[j] = true) : sameT xs ys = true := by
  simp only [sameT, decide_eq_true_eq]
  exact List.ext_getElem hl fun j h1 h2 => (eqTv_iff _ _).1 (h j h1 h2)
end Go.Proofs.YtkfnbakhbbcfcaaGreatDoor
