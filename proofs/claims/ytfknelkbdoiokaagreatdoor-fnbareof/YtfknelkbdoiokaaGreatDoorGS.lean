/-
  Toks, SpecToks, TokJoin: these texts one behind the other, as a claim holds at most 60 files.
-/
import Derived.Test.YtfknelkbdoiokaaGreatDoorGB
import Derived.Laws.StructEq
import Derived.Test.YtfknelkbdoiokaaGreatDoorGC
import Derived.Test.YtfknelkbdoiokaaGreatDoorJoinTok
namespace Go.Proofs.YtfknelkbdoiokaaGreatDoor
open Go.RowKit

/-- A word as Go holds it: its kind, its text, its place. -/
abbrev Tv := Int × ByteArray × Int
def tvC (x : Tv) : List Value := [.int .i64 x.1, .string x.2.1, .int .i64 x.2.2]
def rowT (xs : List Tv) : List Value := xs.flatMap tvC
theorem rowT_length (xs : List Tv) : (rowT xs).length = xs.length * 3 := by
  induction xs with
  | nil => rfl
  | cons x xs ih => simp [rowT, tvC] at ih ⊢; omega
theorem rowT_append (xs ys : List Tv) : rowT (xs ++ ys) = rowT xs ++ rowT ys := by simp [rowT]
theorem rowT_cons (x : Tv) (xs : List Tv) : rowT (x :: xs) = tvC x ++ rowT xs := by simp [rowT]
theorem rowT_get (xs : List Tv) : ∀ (k : Nat) (hk : k < xs.length) (i : Nat), i < 3 → (rowT xs)[k * 3 + i]? = (tvC xs[k])[i]? := by
  induction xs with
  | nil => intro k hk; simp at hk
  | cons x xs ih =>
    intro k hk i hi
    rw [rowT_cons]
    cases k with
    | zero =>
      rw [Nat.zero_mul, Nat.zero_add, List.getElem?_append_left (by simpa [tvC] using hi)]
      rfl
    | succ k =>
      rw [List.getElem?_append_right (by simp [tvC]; omega), show (k + 1) * 3 + i - (tvC x).length = k * 3 + i by simp [tvC]; omega]
      exact ih k (by simpa using hk) i hi

theorem rowT_set (ys : List Tv) : ∀ (k : Nat) (x : Tv), k < ys.length → (((rowT ys).set (k * 3) (.int .i64 x.1)).set (k * 3 + 1) (.string x.2.1)).set (k * 3 + 2) (.int .i64 x.2.2) = rowT (ys.set k x) := by
  induction ys with
  | nil => intro k x h; simp at h
  | cons y ys ih =>
    intro k x h
    cases k with
    | zero => rfl
    | succ k =>
      rw [rowT_cons, List.set_cons_succ, rowT_cons, ← ih k x (by simpa using h), show (k + 1) * 3 = (tvC y).length + k * 3 by simp [tvC]; omega]
      rw [show (tvC y).length + k * 3 + 1 = (tvC y).length + (k * 3 + 1) by omega, show (tvC y).length + k * 3 + 2 = (tvC y).length + (k * 3 + 2) by omega]
      rw [List.set_append_right _ _ (by omega), List.set_append_right _ _ (by omega), List.set_append_right _ _ (by omega)]
      simp only [Nat.add_sub_cancel_left]

/-- The three cells of the word at place k. -/
theorem SlIs.tok {w : World} {A : Option Addr} {xs : List Tv} (h : SlIs w A (rowT xs)) {k : Nat} (hk : k < xs.length) :
    ∃ g off, A = some ⟨g, off, none⟩ ∧ g < w.heap.size ∧ w.cell? ⟨g, off + k * 3, none⟩ = some (.int .i64 xs[k].1) ∧ w.cell? ⟨g, off + k * 3 + 1, none⟩ = some (.string xs[k].2.1) ∧ w.cell? ⟨g, off + k * 3 + 2, none⟩ = some (.int .i64 xs[k].2.2) := by
  have hl := rowT_length xs
  rcases h with h | ⟨g, off, e, hg, hc⟩
  · rw [h] at hl; simp at hl; omega
  · have g0 := rowT_get xs k hk 0 (by omega)
    have g1 := rowT_get xs k hk 1 (by omega)
    have g2 := rowT_get xs k hk 2 (by omega)
    refine ⟨g, off, e, hg, hc _ _ g0, ?_, ?_⟩
    · rw [Nat.add_assoc]; exact hc _ _ g1
    · rw [Nat.add_assoc]; exact hc _ _ g2
theorem SlIs.ownK {w : World} {base : Nat} {e : TypeId} {sz : Nat} {A : Option Addr} {n c : Nat} {xs : List Value} (h : w.ownsRow base e sz (.slice A n c) n xs) : SlIs w A xs := by
  rcases h.2 with ⟨hv, hn⟩ | ⟨g, cap, cur, hv, hb, hg, hnc, hcm, hcs, htake⟩
  · exact .inl (List.eq_nil_of_length_eq_zero (by rw [h.1, hn]; simp))
  · injection hv with h1 h2 h3
    subst h1
    refine .inr ⟨g, 0, rfl, (Array.getElem?_eq_some_iff.1 hg).1, fun j u hu => ?_⟩
    rw [← htake, List.getElem?_take] at hu
    split at hu
    · simp only [World.cell?, hg, Nat.zero_add]
      simpa using hu
    · cases hu
/-- The list without its first word. -/
theorem SlIs.tail {w : World} {g off : Nat} {x : Tv} {xs : List Tv} (h : SlIs w (some ⟨g, off, none⟩) (rowT (x :: xs))) : SlIs w (some ⟨g, off + 3, none⟩) (rowT xs) := by
  rcases h with h | ⟨g', off', e, hg, hc⟩
  · simp [rowT, tvC] at h
  · injection e with e
    injection e with e1 e2
    subst e1 e2
    refine .inr ⟨g, off + 3, rfl, hg, fun j u hu => ?_⟩
    have := hc (3 + j) u (by rw [rowT_cons, List.getElem?_append_right (by simp [tvC])]; simpa [tvC] using hu)
    rwa [show off + (3 + j) = off + 3 + j by omega] at this
theorem own_sliceK {w : World} {base : Nat} {e : TypeId} {sz : Nat} {v : Value} {n : Nat} {xs : List Value} (h : w.ownsRow base e sz v n xs) : ∃ A c, v = .slice A n c ∧ n ≤ c := by
  rcases h.2 with ⟨rfl, rfl⟩ | ⟨g, cap, _, rfl, _, _, hc, _⟩
  · exact ⟨none, 0, rfl, Nat.le_refl _⟩
  · exact ⟨_, cap, rfl, hc⟩

def eqTv (x y : Tv) : Bool := x.1 == y.1 && (x.2.1.toList == y.2.1.toList && x.2.2 == y.2.2)
theorem eqTv_iff (x y : Tv) : eqTv x y = true ↔ x = y := by
  obtain ⟨a, s, c⟩ := x
  obtain ⟨a', s', c'⟩ := y
  simp only [eqTv, Bool.and_eq_true, beq_iff_eq, Prod.mk.injEq]
  constructor
  · rintro ⟨h1, h2, h3⟩
    refine ⟨h1, ?_, h3⟩
    rw [ByteArray.toList_eq, ByteArray.toList_eq] at h2
    exact ByteArray.ext (Array.toList_inj.1 h2)
  · rintro ⟨rfl, rfl, rfl⟩; exact ⟨rfl, rfl, rfl⟩


theorem neqTok (a c a' c' : Int) (s s' : ByteArray) (w : World) : Sem.run Tryz.prog (binOp .neq 50 (.agg #[.int .i64 a, .string s, .int .i64 c]) (.agg #[.int .i64 a', .string s', .int .i64 c'])) w = .ok (.bool (!eqTv (a, s, c) (a', s', c'))) w := by
  have u3 := Tryz.underlying3
  have a3 := Tryz.isAgg3
  have z3 := Tryz.sizeOf3
  have u9 := Tryz.underlying9
  have a9 := Tryz.isAgg9
  have z9 := Tryz.sizeOf9
  have hS : Tryz.prog.underlying 50 = some (.struct (Tryz.prog.fieldsOf 50)) := by kernel_rfl
  have hp : Tryz.prog.stoodInHeld 50 = false := by kernel_rfl
  rw [run_neq_struct, show (10000 : Nat) = 9999 + 1 from rfl, run_equalIn_agg w 9999 50 _ _ hS hp]
  simp only [Program.fieldsOf, Tryz.underlying50]
  go_simp
  by_cases h1 : a = a' <;> by_cases h2 : s.toList = s'.toList <;> by_cases h3 : c = c' <;> simp [eqTv, h1, h2, h3]
theorem eqlTok (a c a' c' : Int) (s s' : ByteArray) (w : World) : Sem.run Tryz.prog (binOp .eql 50 (.agg #[.int .i64 a, .string s, .int .i64 c]) (.agg #[.int .i64 a', .string s', .int .i64 c'])) w = .ok (.bool (eqTv (a, s, c) (a', s', c'))) w := by
  have u3 := Tryz.underlying3
  have a3 := Tryz.isAgg3
  have z3 := Tryz.sizeOf3
  have u9 := Tryz.underlying9
  have a9 := Tryz.isAgg9
  have z9 := Tryz.sizeOf9
  have hS : Tryz.prog.underlying 50 = some (.struct (Tryz.prog.fieldsOf 50)) := by kernel_rfl
  have hp : Tryz.prog.stoodInHeld 50 = false := by kernel_rfl
  rw [run_eql_struct, show (10000 : Nat) = 9999 + 1 from rfl, run_equalIn_agg w 9999 50 _ _ hS hp]
  simp only [Program.fieldsOf, Tryz.underlying50]
  go_simp
  by_cases h1 : a = a' <;> by_cases h2 : s.toList = s'.toList <;> by_cases h3 : c = c' <;> simp [eqTv, h1, h2, h3]
theorem guardTok (op : BinOp) (x y : Operand) (xs ys : Array Value) (w : World) : Sem.run Tryz.prog (eqGuard op 50 x y (.agg xs) (.agg ys)) w = .ok () w := run_eqGuard_agg w op _ x y xs ys (by kernel_rfl)

theorem infoTok : (Tryz.prog.info? 50).map (fun i => (i.zero, i.size, i.bytes)) = some (some (.agg #[.int .i64 0, .string ByteArray.empty, .int .i64 0]), 3, 32) := by kernel_rfl
/-- Two lists are one. -/
def sameT (xs ys : List Tv) : Bool := decide (xs = ys)
theorem sameT_short {xs ys : List Tv} (h : xs.length ≠ ys.length) : sameT xs ys = false := by
  simp only [sameT, decide_eq_false_iff_not]
  intro e; exact h (by rw [e])
theorem sameT_at {xs ys : List Tv} {k : Nat} (h1 : k < xs.length) (h2 : k < ys.length) (h : eqTv xs[k] ys[k] = false) : sameT xs ys = false := by
  simp only [sameT, decide_eq_false_iff_not]
  rintro rfl
  rw [(eqTv_iff _ _).2 rfl] at h
  cases h
theorem sameT_all {xs ys : List Tv} (hl : xs.length = ys.length) (h : ∀ j (h1 : j < xs.length) (h2 : j < ys.length), eqTv xs[j] ys[j] = true) : sameT xs ys = true := by
  simp only [sameT, decide_eq_true_eq]
  exact List.ext_getElem hl fun j h1 h2 => (eqTv_iff _ _).1 (h j h1 h2)
end Go.Proofs.YtfknelkbdoiokaaGreatDoor

namespace Go.Proofs.YtfknelkbdoiokaaGreatDoor
open Go.RowKit

/-- The bytes from place a to place b. -/
def cutL (s : ByteArray) (a b : Nat) : List UInt8 := ((L s).take b).drop a
theorem cutL_cons (s : ByteArray) (a b : Nat) (h : a < b) (hb : b ≤ s.size) : cutL s a b = (s[a]'(by omega)) :: cutL s (a + 1) b := by
  unfold cutL
  have h1 : a < ((L s).take b).length := by rw [List.length_take, L_length]; omega
  rw [List.drop_eq_getElem_cons h1, List.getElem_take]
  rfl
theorem cutL_nil (s : ByteArray) (a : Nat) : cutL s a a = [] := List.drop_eq_nil_of_le (by rw [List.length_take]; omega)
theorem cutL_succ (s : ByteArray) (a b : Nat) (h : a ≤ b) (hb : b < s.size) : cutL s a (b + 1) = cutL s a b ++ [s[b]] := by
  unfold cutL
  rw [L_take s b hb, List.drop_append_of_le_length (by rw [List.length_take, L_length]; omega)]
theorem cutL_drop (s : ByteArray) (a b : Nat) (h : a ≤ b) (hb : b ≤ s.size) : (L s).drop a = cutL s a b ++ (L s).drop b := by
  unfold cutL
  have h1 := List.take_append_drop b (L s)
  conv => lhs; rw [← h1]
  rw [List.drop_append_of_le_length (by rw [List.length_take, L_length]; omega)]
theorem cutL_length (s : ByteArray) (a b : Nat) (hb : b ≤ s.size) : (cutL s a b).length = b - a := by
  unfold cutL; rw [List.length_drop, List.length_take, L_length]; omega
theorem drop_head (s : ByteArray) (b : Nat) (x : UInt8) (h : ((L s).drop b).head? = some x) : ∃ hb : b < s.size, s[b] = x := by
  by_cases hb : b < s.size
  · refine ⟨hb, ?_⟩
    rw [L_drop s b hb] at h
    simpa using h
  · rw [List.drop_eq_nil_of_le (by rw [L_length]; omega)] at h
    cases h
theorem L_cut (s : ByteArray) (a b : Nat) : L (s.extract a b) = cutL s a b := L_extract s a b
theorem cut_bytes (s : ByteArray) (a b : Nat) : s.extract a b = ⟨(cutL s a b).toArray⟩ := by
  apply ByteArray.ext
  apply Array.toList_inj.1
  exact L_cut s a b

theorem kind_head {c : UInt8} {t : List UInt8} (h1 : isLet c = false) (h2 : isDig c = false) (h3 : isMark c = false) : kindL (c :: t) = 0 := by
  unfold kindL
  have a1 : wordL (c :: t) = false := by unfold wordL; rw [List.all_cons, h1]; simp
  have a2 : decL (c :: t) = false := by unfold decL; rw [List.all_cons, h2]; simp
  have a3 : markL (c :: t) = false := by cases t; exact h3; rfl
  rw [a1, a2, a3]
  rfl

/-- From a to b there is one word, and the words of what is left go on behind it. -/
def WordAt (s : ByteArray) (a b : Nat) : Prop :=
  toks a ((L s).drop a) = if kindL (cutL s a b) = 0 then none else (toks b ((L s).drop b)).map (⟨kindL (cutL s a b), cutL s a b, a⟩ :: ·)
theorem WordAt.of {s : ByteArray} {a b : Nat} (h : a < b) (hb : b ≤ s.size) (hs : Starts (cutL s a b) ((L s).drop b)) : WordAt s a b := by
  unfold WordAt
  rw [cutL_drop s a b (by omega) hb, toks_word _ _ _ hs, cutL_length s a b hb, show a + (b - a) = b by omega]
theorem WordAt.none {s : ByteArray} {a b : Nat} (h : a < b) (hb : b ≤ s.size) (h0 : (s[a]'(by omega)) ≠ 32) (h1 : isLet (s[a]'(by omega)) = false) (h2 : isDig (s[a]'(by omega)) = false) (h3 : isMark (s[a]'(by omega)) = false) : WordAt s a b := by
  unfold WordAt
  rw [cutL_cons s a b h hb, if_pos (kind_head h1 h2 h3), L_drop s a (by omega), toks, if_neg h0, if_pos (kind_head h1 h2 h3)]

/-- What l3End tells. -/
def Ends (s : ByteArray) (a b : Nat) : Prop := a < b ∧ b ≤ s.size ∧ ∃ h : a < s.size, (s[a] = 32 → b = a + 1) ∧ (s[a] ≠ 32 → WordAt s a b)

theorem cls_let {c : UInt8} : clsN c = 1 ↔ isLet c = true := by
  unfold clsN
  constructor
  · intro h
    cases h1 : isLet c
    · rw [h1] at h
      simp at h
      split at h <;> (try split at h) <;> (try split at h) <;> simp at h
    · rfl
  · intro h; rw [if_pos h]
theorem cls_dig {c : UInt8} : clsN c = 2 ↔ isDig c = true := by
  unfold clsN
  constructor
  · intro h
    cases h1 : isLet c
    · rw [h1] at h
      cases h2 : isDig c
      · rw [h2] at h
        simp at h
        split at h <;> (try split at h) <;> simp at h
      · rfl
    · rw [h1] at h; simp at h
  · intro h
    have : ¬ isLet c = true := fun h1 => by rw [let_dig h1] at h; cases h
    rw [if_neg this, if_pos h]
/-- Where the run of a class ends. -/
theorem ends_run {s : ByteArray} {a b : Nat} (h : a < b) (hb : b ≤ s.size) (hr : ∀ x ∈ cutL s (a + 1) b, clsN x = clsN (s[a]'(by omega))) (hlow : clsN (s[a]'(by omega)) < 3) (hx : ∀ hb : b < s.size, clsN s[b] ≠ clsN (s[a]'(by omega))) : Ends s a b := by
  refine ⟨h, hb, by omega, fun h32 => ?_, fun h32 => ?_⟩
  · rw [h32] at hlow; exact absurd hlow (by decide)
  · have hc : clsN (s[a]'(by omega)) = 0 ∨ clsN (s[a]'(by omega)) = 1 ∨ clsN (s[a]'(by omega)) = 2 := by omega
    rcases hc with hc | hc | hc
    · have h1 : isLet (s[a]'(by omega)) = false := by
        cases hl : isLet (s[a]'(by omega))
        · rfl
        · rw [cls_let.2 hl] at hc; cases hc
      have h2 : isDig (s[a]'(by omega)) = false := by
        cases hl : isDig (s[a]'(by omega))
        · rfl
        · rw [cls_dig.2 hl] at hc; cases hc
      have h3 : isMark (s[a]'(by omega)) = false := by
        cases hl : isMark (s[a]'(by omega))
        · rfl
        · unfold clsN at hc; rw [h1, h2, hl] at hc; simp at hc
      exact WordAt.none h hb h32 h1 h2 h3
    · refine WordAt.of h hb ?_
      rw [cutL_cons s a b h hb]
      refine starts_let (cls_let.1 hc) (List.all_eq_true.2 fun x hx => cls_let.1 ((hr x hx).trans hc)) fun x hx' => ?_
      obtain ⟨hb', rfl⟩ := drop_head s b x hx'
      cases hl : isLet s[b]
      · rfl
      · exact absurd ((cls_let.2 hl).trans hc.symm) (hx hb')
    · refine WordAt.of h hb ?_
      rw [cutL_cons s a b h hb]
      refine starts_dig (cls_dig.1 hc) (List.all_eq_true.2 fun x hx => cls_dig.1 ((hr x hx).trans hc)) fun x hx' => ?_
      obtain ⟨hb', rfl⟩ := drop_head s b x hx'
      cases hl : isDig s[b]
      · rfl
      · exact absurd ((cls_dig.2 hl).trans hc.symm) (hx hb')
theorem ends_one {s : ByteArray} {a : Nat} (ha : a < s.size) (hhigh : ¬ clsN s[a] < 3) : Ends s a (a + 1) := by
  refine ⟨by omega, by omega, ha, fun _ => rfl, fun h32 => ?_⟩
  have h1 : isLet s[a] = false := by
    cases hl : isLet s[a]
    · rfl
    · rw [cls_let.2 hl] at hhigh; omega
  have h2 : isDig s[a] = false := by
    cases hl : isDig s[a]
    · rfl
    · rw [cls_dig.2 hl] at hhigh; omega
  refine WordAt.of (by omega) (by omega) ?_
  rw [cutL_cons s a (a + 1) (by omega) (by omega), cutL_nil]
  exact starts_one h32 h1 h2

theorem clsN_le (c : UInt8) : clsN c ≤ 4 := by
  unfold clsN
  split
  · omega
  · split
    · omega
    · split
      · omega
      · split <;> omega
set_option maxRecDepth 100000 in
set_option maxHeartbeats 1000000 in
theorem l3End_any (s : ByteArray) (a : Nat) (w : World) (hs : s.size ≤ 2 ^ 40) (ha : a < s.size) :
    Calls Tryz.prog 149 #[.string s, .int .i64 (a : Int)] w fun e w' => ∃ b : Nat, e = .returned (.int .i64 (b : Int)) ∧ Ends s a b ∧ w = w' := by
  have hx : (a : Int) < (s.size : Int) := by omega
  have HC := Lib.hid (l3Class_any s[a] w)
  have hle := clsN_le s[a]
  generalize hk : clsN s[a] = k at *
  have HK := Lib.hid hk
  clear hk
  go_enter Tryz.func149, Tryz.ntmps149
  go_wp2_with fail
  refine HC.out.mono ?_
  rintro e w' ⟨rfl, rfl⟩
  clear HC
  go_wp2_with fail
  go_loop [6] (fun i => ∃ b : Nat, a < b ∧ b ≤ s.size ∧ i = .int .i64 b ∧ (k < 3 ∨ b = a + 1) ∧ Hid (∀ x ∈ cutL s (a + 1) b, clsN x = k)) (fun i => s.size - (intOf i).toNat)
  case atStart => exact ⟨a + 1, by omega, by omega, by go_num, .inr rfl, fun x hx => by rw [cutL_nil] at hx; cases hx⟩
  case round =>
    obtain ⟨b, hab, hbs, rfl, hk3, HP⟩ := hrel
    by_cases hlt : b < s.size
    · have q1 : (b : Int) < (s.size : Int) := by omega
      by_cases h3 : k < 3
      · have q2 : (k : Int) < 3 := by omega
        have HC := Lib.hid (l3Class_any s[b] w)
        have HX := Lib.hid (cutL_succ s (a + 1) b (by omega) hlt)
        have hle2 := clsN_le s[b]
        by_cases he : clsN s[b] = k
        · rw [he] at HC
          have q3 : ((k : Int) == (k : Int)) = true := by simp
          have HP2 := Lib.hid (show ∀ x ∈ cutL s (a + 1) (b + 1), clsN x = k by
            intro x hx
            rw [HX.out, List.mem_append] at hx
            rcases hx with hx | hx
            · exact HP.out x hx
            · rw [List.mem_singleton] at hx; rw [hx]; exact he)
          clear he HX hk3
          go_wp2_with fail
          refine HC.out.mono ?_
          rintro e w' ⟨rfl, rfl⟩
          go_wp2_with fail
          go_round
          case rel => exact ⟨b + 1, by omega, by omega, by go_num, .inl h3, HP2⟩
          case measure => simp [intOf]; omega
        · have HE := Lib.hid (ends_run hab hbs (fun x hx => (HP.out x hx).trans HK.out.symm) (by rw [HK.out]; exact h3) (fun _ => by rw [HK.out]; exact he))
          generalize hj : clsN s[b] = j at *
          have q3 : ((j : Int) == (k : Int)) = false := by rw [beq_eq_false_iff_ne]; omega
          clear hj he HX hk3
          go_wp2_with fail
          refine HC.out.mono ?_
          rintro e w' ⟨rfl, rfl⟩
          go_wp2_with fail
          go_ret
          exact ⟨b, rfl, HE.out, rfl⟩
      · have q2 : decide ((k : Int) < 3) = false := by simp; omega
        obtain rfl : b = a + 1 := by rcases hk3 with h | h; exact absurd h h3; exact h
        have HE := Lib.hid (ends_one ha (by rw [HK.out]; exact h3))
        clear hk3
        go_wp2_with fail
        go_ret
        exact ⟨a + 1, by simp, HE.out, rfl⟩
    · have q1 : decide ((b : Int) < (s.size : Int)) = false := by simp; omega
      have HE := Lib.hid (show Ends s a b by
        by_cases h3 : k < 3
        · exact ends_run hab hbs (fun x hx => (HP.out x hx).trans HK.out.symm) (by rw [HK.out]; exact h3) (fun h => absurd h hlt)
        · obtain rfl : b = a + 1 := by rcases hk3 with h | h; exact absurd h h3; exact h
          exact ends_one ha (by rw [HK.out]; exact h3))
      clear hk3
      go_wp2_with fail
      go_ret
      exact ⟨b, rfl, HE.out, rfl⟩

/-- A word, as Go holds it. -/
def tkV (t : Tk) : Tv := ((t.kind : Int), ⟨t.s.toArray⟩, (t.col : Int))
/-- The words of a line. -/
def toksR (s : ByteArray) : Option (List Tk) := if s.size ≤ 120 then toks 0 (L s) else none
theorem toksR_big {s : ByteArray} (h : ¬ s.size ≤ 120) : toksR s = none := by unfold toksR; rw [if_neg h]
theorem toksR_ok {s : ByteArray} (h : s.size ≤ 120) : toksR s = toks 0 (L s) := by unfold toksR; rw [if_pos h]
/-- What TokLine tells: a list of its own, and whether there are such words. -/
def ReadsT (w : World) (s : ByteArray) (e : Ending) (w' : World) : Prop :=
  ∃ v, e = .returned (.tuple #[v, .bool (toksR s).isSome]) ∧ w'.ownsRow w.heap.size 50 3 v ((toksR s).getD []).length (rowT (((toksR s).getD []).map tkV)) ∧ Below w.heap.size w w'
theorem ret_list {v : Value} {a b : Bool} (h : a = b) : Ending.returned (.tuple #[v, .bool a]) = .returned (.tuple #[v, .bool b]) := by rw [h]
theorem cell_madeK (w : World) (cs : Array Value) (t : TypeId) (j : Nat) : (w.alloc (.cells cs t)).cell? ⟨w.heap.size, j, none⟩ = cs[j]? := by
  have h := World.alloc_heap_new w (.cells cs t)
  simp only [World.cell?]
  rw [h]
  rfl
theorem cell_three_new (w : World) (a b c : Value) (t : TypeId) : ∀ j u, [a, b, c][j]? = some u → (w.alloc (.cells #[a, b, c] t)).cell? ((⟨w.heap.size, 0, none⟩ : Addr).add j) = some u := by
  intro j u hj
  rw [Go.WideShapes.add_plain, Nat.zero_add, cell_madeK]
  simpa using hj
theorem ownsRow_emptyK (w : World) (t : TypeId) (k base : Nat) (hb : base ≤ w.heap.size) : (w.alloc (.cells #[] t)).ownsRow base t k (.slice (some ⟨w.heap.size, 0, none⟩) 0 0) 0 [] :=
  ⟨by simp, .inr ⟨w.heap.size, 0, #[], rfl, hb, World.alloc_heap_new w _, Nat.le_refl _, by simp [maxLen], by simp, by simp⟩⟩
theorem below_appendK {n₀ sz : Nat} {w W w1 : World} {tmp : Obj} {v : Value} {t : TypeId} {k : Nat} {xs : List Value} (hB : Below n₀ w W) (hn : n₀ ≤ W.heap.size) (hrow : W.ownsRow n₀ t sz v k xs) (hg : (W.alloc tmp).grownBy w1 v.ownBlock) : Below n₀ w w1 := by
  refine (hB.alloc hn tmp).grown hg (by simp; omega) fun j ej => ?_
  rcases hrow.2 with ⟨rfl, _⟩ | ⟨g, cap, cur, rfl, hb, _, _⟩
  · simp [Value.ownBlock] at ej
  · obtain rfl : g = j := by simpa [Value.ownBlock] using ej
    exact hb

/-- So far these words were read. -/
structure FarT (s : ByteArray) (a : Nat) (acc : List Tk) : Prop where
  le : a ≤ s.size
  all : toks 0 (L s) = (toks a ((L s).drop a)).map (acc ++ ·)
  len : acc.length ≤ a
theorem FarT.zero (s : ByteArray) : FarT s 0 [] := ⟨Nat.zero_le _, by rw [List.drop_zero]; cases toks 0 (L s) <;> rfl, Nat.le_refl _⟩
theorem FarT.space {s : ByteArray} {a : Nat} {acc : List Tk} (h : FarT s a acc) (ha : a < s.size) (hc : s[a] = 32) : FarT s (a + 1) acc :=
  ⟨ha, by rw [h.all, L_drop s a ha, hc, toks_space], by have := h.len; omega⟩
theorem FarT.word {s : ByteArray} {a b : Nat} {acc : List Tk} (h : FarT s a acc) (hab : a < b) (hb : b ≤ s.size) (hw : WordAt s a b) (hk : kindL (cutL s a b) ≠ 0) : FarT s b (acc ++ [⟨kindL (cutL s a b), cutL s a b, a⟩]) := by
  refine ⟨hb, ?_, by have := h.len; simp; omega⟩
  have h1 := h.all
  unfold WordAt at hw
  rw [h1, hw, if_neg hk]
  cases toks b ((L s).drop b) <;> simp
theorem FarT.bad {s : ByteArray} {a b : Nat} {acc : List Tk} (h : FarT s a acc) (hw : WordAt s a b) (hk : kindL (cutL s a b) = 0) : toks 0 (L s) = none := by
  unfold WordAt at hw
  rw [h.all, hw, if_pos hk]
  rfl
theorem FarT.done {s : ByteArray} {a : Nat} {acc : List Tk} (h : FarT s a acc) (ha : ¬ a < s.size) : toks 0 (L s) = some acc := by
  have : (L s).drop a = [] := List.drop_eq_nil_of_le (by rw [L_length]; omega)
  rw [h.all, this, toks_nil]
  show some (acc ++ []) = _
  rw [List.append_nil]
set_option maxRecDepth 100000 in
set_option maxHeartbeats 2000000 in
theorem specTokLine_any (s : ByteArray) (w : World) (hs : s.size ≤ 2 ^ 40) :
    Calls Tryz.prog 124 #[.string s] w (ReadsT w s) := by
  obtain ⟨i0, hi, hz0, hz1, hz2⟩ := info_parts infoTok
  by_cases hbig : s.size ≤ 120
  · have q0 : decide ((120 : Int) < (s.size : Int)) = false := by simp; omega
    have HR := Lib.hid (toksR_ok hbig)
    go_enter Tryz.func124, Tryz.ntmps124
    go_wp2_with fail
    go_loopw [4, 5] (fun v i wr => ∃ (a : Nat) (acc : List Tk), i = .int .i64 a ∧ FarT s a acc ∧ wr.ownsRow w.heap.size 50 3 v acc.length (rowT (acc.map tkV)) ∧ Below w.heap.size w wr)
      (fun _ i _ => s.size - (intOf i).toNat)
    case atStart => exact ⟨0, [], rfl, FarT.zero s, ownsRow_emptyK w _ 3 _ (Nat.le_refl _), (Below.refl _ w).alloc (Nat.le_refl _) _⟩
    case round =>
      obtain ⟨a, acc, rfl, hfar, hown, hB⟩ := hrel
      have hlen := hfar.len
      have has := hfar.le
      have hwz := hB.size
      by_cases hlt : a < s.size
      · have q1 : (a : Int) < (s.size : Int) := by omega
        have HE := Lib.hid (l3End_any s a wr hs hlt)
        by_cases h32 : s[a] = 32
        · have q2 : ((s[a].toNat : Int) != 32) = false := by rw [h32]; rfl
          have HF := Lib.hid (hfar.space hlt h32)
          have H32 := Lib.hid h32
          clear hfar h32
          go_wp2_with fail
          refine HE.out.mono ?_
          rintro e w' ⟨b, rfl, he, rfl⟩
          obtain rfl : b = a + 1 := he.2.2.2.1 H32.out
          clear he
          go_wp2_with fail
          go_roundw
          case rel => exact ⟨a + 1, acc, by go_num, HF.out, hown, hB⟩
          case measure => simp [intOf]; omega
        · have q2 : ((s[a].toNat : Int) != 32) = true := by
            have h := u8_ne (n := 32) h32 (by decide)
            rw [bne]
            show (!((s[a].toNat : Int) == (32 : Nat))) = true
            rw [h]
            rfl
          have H32 := Lib.hid h32
          have HFar := Lib.hid hfar
          clear hfar h32
          go_wp2_with fail
          refine HE.out.mono ?_
          rintro e w' ⟨b, rfl, he, rfl⟩
          have hab := he.1
          have hbs := he.2.1
          have HW := Lib.hid (he.2.2.2.2 H32.out)
          clear he HE
          have HTK := Lib.hid (specTokKind_any (s.extract a b) wr (by rw [← L_length, L_cut, cutL_length s a b hbs]; omega))
          rw [L_cut] at HTK
          have i1 : (a : Int) ≤ (b : Int) := by omega
          have i2 : (b : Int) ≤ (s.size : Int) := by omega
          have HCB := Lib.hid (cut_bytes s a b)
          by_cases hk : kindL (cutL s a b) = 0
          · have HN := Lib.hid (HFar.out.bad HW.out hk)
            rw [hk] at HTK
            go_wp2_with fail
            refine HTK.out.mono ?_
            rintro e w1 ⟨rfl, n1, hw1⟩
            have hb1 : Below wr.heap.size wr w1 := by rw [hw1]; exact below_draws n1
            clear hw1
            go_wp2_with fail
            go_ret2
            exact ⟨_, ret_list (by rw [HR.out, HN.out]; rfl), by rw [HR.out, HN.out]; exact ownsRow_emptyK w1 _ 3 _ (by have := hb1.size; omega), (hB.trans (hb1.mono hB.size)).alloc (by have := hb1.size; omega) _⟩
          · have HF := Lib.hid (HFar.out.word hab hbs HW.out hk)
            generalize hkk : kindL (cutL s a b) = kd at *
            have q3 : ((kd : Int) == 0) = false := by rw [beq_eq_false_iff_ne]; omega
            clear hkk
            go_wp2_with fail
            refine HTK.out.mono ?_
            rintro e w1 ⟨rfl, n1, hw1⟩
            have hb1 : Below wr.heap.size wr w1 := by rw [hw1]; exact below_draws n1
            have hown1 := own_below hown hb1
            have hB1 := hB.trans (hb1.mono hB.size)
            have hs1 := hb1.size
            clear hw1 hown
            go_wp2_with (at_builtin; refine wpList_append_own _ rfl _ _ 46 rfl w.heap.size 50 i0 (.agg #[.int .i64 0, .string ByteArray.empty, .int .i64 0]) 3 32 Tryz.underlying46 hi hz0 hz1 hz2 rfl (by decide) _ _ _ rfl (hown1.alloc _) ⟨w1.heap.size, 0, none⟩ 1 1 [.int .i64 (kd : Int), .string (s.extract a b), .int .i64 (a : Int)] rfl rfl (cell_three_new _ _ _ _ _) (by simp [Value.oneCell']) (by unfold maxLen; omega) (by omega) (by simp; omega) ?_; intro v' w2 hown' hgrow _)
            go_roundw
            case rel => exact ⟨b, _, rfl, HF.out, by rw [List.map_append, List.length_append, rowT_append]; rw [HCB.out] at hown'; exact hown', below_appendK hB1 hB1.size hown1 hgrow⟩
            case measure => simp [intOf]; omega
      · have HN := Lib.hid (hfar.done hlt)
        clear hfar
        go_wp2_with fail
        go_ret2
        exact ⟨_, ret_list (by rw [HR.out, HN.out]; rfl), by rw [HR.out, HN.out]; exact hown, hB⟩
  · have q0 : decide ((120 : Int) < (s.size : Int)) = true := by simp; omega
    have HR := Lib.hid (toksR_big hbig)
    clear hbig
    go_enter Tryz.func124, Tryz.ntmps124
    go_wp2_with fail
    go_ret2
    exact ⟨_, ret_list (by rw [HR.out]; rfl), by rw [HR.out]; have h := ownsRow_emptyK (w.alloc (.cells #[] 50)) 50 3 w.heap.size (by simp); have e : (w.alloc (.cells #[] 50)).heap.size = w.heap.size + 1 := (by simp); rw [e] at h; exact h, ((Below.refl _ w).alloc (Nat.le_refl _) _).alloc (by simp) _⟩
end Go.Proofs.YtfknelkbdoiokaaGreatDoor

namespace Go.Proofs.YtfknelkbdoiokaaGreatDoor
open Go.RowKit

/-- The words, each where it begins. -/
def joinToks (zs : List ByteArray) (k : Nat) : List Tk := (List.range k).map fun i => ⟨kindL (L (zs.getD i ByteArray.empty)), L (zs.getD i ByteArray.empty), tot (zs.take i)⟩
theorem joinToks_succ (zs : List ByteArray) (k : Nat) : joinToks zs (k + 1) = joinToks zs k ++ [⟨kindL (L (zs.getD k ByteArray.empty)), L (zs.getD k ByteArray.empty), tot (zs.take k)⟩] := by simp [joinToks, List.range_succ]
theorem getD_at (zs : List ByteArray) (k : Nat) (h : k < zs.length) : zs.getD k ByteArray.empty = zs[k] := by simp [List.getD, h]
theorem joinK_exact (zs : List ByteArray) : ∀ k, 1 ≤ k → k ≤ zs.length → (joinK zs k).size + 1 = tot (zs.take k) := by
  intro k
  induction k with
  | zero => intro h; omega
  | succ k ih =>
    intro _ h
    rw [tot_take_succ zs k (by omega)]
    unfold joinK
    rw [ByteArray.size_append, getD_at zs k (by omega)]
    by_cases h0 : k = 0
    · subst h0
      rw [if_pos rfl]
      simp [joinK, tot]
    · have := ih (by omega) (by omega)
      rw [if_neg h0, ByteArray.size_append]
      have h1 : (ByteArray.mk #[32]).size = 1 := rfl
      omega
theorem L_append (a b : ByteArray) : L (a ++ b) = L a ++ L b := by simp [L]
theorem toks_join (zs : List ByteArray) (hz : ∀ z ∈ zs, kindL (L z) ≠ 0) : ∀ k, k ≤ zs.length → toks 0 (L (joinK zs k)) = some (joinToks zs k) := by
  intro k
  induction k with
  | zero => intro _; exact toks_nil 0
  | succ k ih =>
    intro h
    have hk : kindL (L (zs.getD k ByteArray.empty)) ≠ 0 := by rw [getD_at zs k (by omega)]; exact hz _ (List.getElem_mem _)
    rw [joinToks_succ]
    unfold joinK
    by_cases h0 : k = 0
    · subst h0
      rw [if_pos rfl, L_append]
      show toks 0 ([] ++ L (zs.getD 0 ByteArray.empty)) = _
      rw [List.nil_append, toks_one 0 _ hk]
      rfl
    · have hs := joinK_exact zs k (by omega) (by omega)
      rw [if_neg h0, L_append, L_append]
      show toks 0 (L (joinK zs k) ++ [32] ++ L (zs.getD k ByteArray.empty)) = _
      rw [List.append_assoc, List.singleton_append, toks_cat, ih (by omega)]
      rw [L_length, show 0 + (joinK zs k).size + 1 = tot (zs.take k) by omega, toks_one _ _ hk]
      rfl
theorem joinToks_length (zs : List ByteArray) (k : Nat) : (joinToks zs k).length = k := by simp [joinToks]
theorem L_inv (z : ByteArray) : (⟨(L z).toArray⟩ : ByteArray) = z := by
  apply ByteArray.ext
  apply Array.toList_inj.1
  rfl
theorem joinToks_get (zs : List ByteArray) (k i : Nat) (hi : i < k) (hk : k ≤ zs.length) : tkV ((joinToks zs k)[i]'(by rw [joinToks_length]; exact hi)) = ((kindL (L (zs[i]'(by omega))) : Int), zs[i]'(by omega), ((tot (zs.take i) : Nat) : Int)) := by
  simp only [joinToks, List.getElem_map, List.getElem_range, tkV]
  rw [getD_at zs i (by omega), L_inv]
theorem tot_le (zs : List ByteArray) (m : Nat) (h : ∀ z ∈ zs, z.size ≤ m) : tot zs ≤ zs.length * (m + 1) := by
  induction zs with
  | nil => simp [tot]
  | cons z zs ih =>
    have h1 := ih (fun y hy => h y (by simp [hy]))
    have h2 := h z (by simp)
    simp only [tot, List.map_cons, List.sum_cons, List.length_cons] at h1 ⊢
    rw [Nat.add_mul]
    omega
/-- Few short words, written with one space between, are cut into just these. -/
theorem toksR_join (zs : List ByteArray) (hz : ∀ z ∈ zs, kindL (L z) ≠ 0) (hs : (joinK zs zs.length).size ≤ 120) : toksR (joinK zs zs.length) = some (joinToks zs zs.length) := by
  rw [toksR_ok hs, toks_join zs hz _ (Nat.le_refl _)]
end Go.Proofs.YtfknelkbdoiokaaGreatDoor
