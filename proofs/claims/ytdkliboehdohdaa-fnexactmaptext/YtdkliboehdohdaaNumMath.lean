/-
  Plain mathematics of numbers in letters: how a number is written, and how it is read. No Go.
-/
import Derived.Test.YtdkliboehdohdaaTextMath
namespace Go.Proofs.Ytdkliboehdohdaa

/-- The letter of a digit. -/
def letU (d : Nat) : UInt8 := if d < 16 then UInt8.ofNat (97 + d) else UInt8.ofNat (49 + d)
/-- The digit of a letter, or -1. -/
def digU (c : UInt8) : Int := if 97 ≤ c.toNat ∧ c.toNat ≤ 112 then (c.toNat : Int) - 97 else if 65 ≤ c.toNat ∧ c.toNat ≤ 80 then (c.toNat : Int) - 49 else -1
theorem letU_toNat (d : Nat) (h : d < 32) : (letU d).toNat = if d < 16 then 97 + d else 49 + d := by
  unfold letU
  split <;> rw [UInt8.toNat_ofNat'] <;> omega
theorem digU_letU (d : Nat) (h : d < 32) : digU (letU d) = d := by
  have := letU_toNat d h
  unfold digU
  split at this <;> (rw [this]; split <;> (try split) <;> omega)
theorem digU_bd (c : UInt8) : -1 ≤ digU c ∧ digU c < 32 := by
  unfold digU
  split
  · omega
  · split <;> omega
theorem letU_digU (c : UInt8) (h : 0 ≤ digU c) : letU (digU c).toNat = c := by
  have hb := digU_bd c
  apply UInt8.toNat_inj.1
  rw [letU_toNat _ (by omega)]
  unfold digU at h ⊢
  split <;> split <;> (try split) <;> simp_all <;> omega

/-- The digits of sixteen, the lowest first, each but the last with sixteen more, as letters. -/
def digs (n : Nat) : List UInt8 := if _h : n < 16 then [letU n] else letU (16 + n % 16) :: digs (n / 16)
termination_by n
decreasing_by omega
theorem digs_small {n : Nat} (h : n < 16) : digs n = [letU n] := by rw [digs]; simp [h]
theorem digs_big {n : Nat} (h : ¬ n < 16) : digs n = letU (16 + n % 16) :: digs (n / 16) := by rw [digs]; simp [h]
theorem digs_ne (n : Nat) : digs n ≠ [] := by
  by_cases h : n < 16
  · rw [digs_small h]; simp
  · rw [digs_big h]; simp
theorem digs_length (m : Nat) : ∀ n, n < 16 ^ (m + 1) → (digs n).length ≤ m + 1 := by
  induction m with
  | zero => intro n h; rw [digs_small (by simpa using h)]; simp
  | succ m ih =>
    intro n h
    by_cases hs : n < 16
    · rw [digs_small hs]; simp
    · rw [digs_big hs]
      have := ih (n / 16) (by rw [Nat.pow_succ] at h; omega)
      simp; omega

def codeOf (n : Int) : Nat := if n < 0 then (-n).toNat * 2 + 1 else n.toNat * 2
def numOf (c : Nat) : Int := if c % 2 = 1 then -((c / 2 : Nat) : Int) else ((c / 2 : Nat) : Int)
theorem numOf_codeOf (n : Int) : numOf (codeOf n) = n := by
  unfold numOf codeOf
  split <;> split <;> omega
/-- Within the bounds of numbers. -/
def inB (n : Int) : Bool := decide (-1000000 ≤ n) && decide (n ≤ 1000000)
theorem inB_yes {n : Int} (h1 : -1000000 ≤ n) (h2 : n ≤ 1000000) : inB n = true := by simp [inB, h1, h2]
theorem inB_bd {n : Int} (h : inB n = true) : -1000000 ≤ n ∧ n ≤ 1000000 := by simpa [inB] using h
theorem inB_no {n : Int} (h : n < -1000000 ∨ 1000000 < n) : inB n = false := by
  cases hb : inB n
  · rfl
  · have := inB_bd hb; omega
theorem codeOf_lt {n : Int} (h : inB n = true) : codeOf n < 16 ^ 6 := by
  have := inB_bd h
  unfold codeOf
  split <;> omega

/-- A number in letters. -/
def numL (n : Int) : List UInt8 := if inB n then digs (codeOf n) else []
def numT (n : Int) : ByteArray := ⟨(numL n).toArray⟩
theorem L_numT (n : Int) : L (numT n) = numL n := by simp [L, numT]
theorem numT_size (n : Int) : (numT n).size = (numL n).length := by simp [numT, ByteArray.size]
theorem numL_in {n : Int} (h : inB n = true) : numL n = digs (codeOf n) := by simp [numL, h]
theorem numL_out {n : Int} (h : inB n = false) : numL n = [] := by simp [numL, h]
theorem numL_length (n : Int) : (numL n).length ≤ 6 := by
  cases h : inB n
  · rw [numL_out h]; simp
  · rw [numL_in h]; exact digs_length 5 _ (codeOf_lt h)
theorem numL_ne {n : Int} (h : inB n = true) : numL n ≠ [] := by rw [numL_in h]; exact digs_ne _

/-- A code read from the front, and how many letters it has. -/
def rd : List UInt8 → Option (Nat × Nat)
  | [] => none
  | c :: l => if digU c < 0 then none else if digU c < 16 then some ((digU c).toNat, 1) else (rd l).map fun x => ((digU c).toNat - 16 + 16 * x.1, x.2 + 1)
/-- A number read from the front, and how many letters it has. -/
def rdN (l : List UInt8) : Option (Int × Nat) := match rd l with
  | none => none
  | some x => if numL (numOf x.1) = l.take x.2 then some (numOf x.1, x.2) else none
/-- A number read from a byte on, and the byte behind. -/
def numR (s : ByteArray) (i : Int) : Int × Int := if 0 ≤ i then (match rdN ((L s).drop i.toNat) with | none => (0, -1) | some x => (x.1, i + (x.2 : Int))) else (0, -1)

/-- The first letters all say that another one follows. -/
def US (l : List UInt8) (j : Nat) : Prop := j ≤ l.length ∧ ∀ c ∈ l.take j, 16 ≤ digU c
def valU : List UInt8 → Nat
  | [] => 0
  | c :: l => (digU c).toNat - 16 + 16 * valU l
theorem valU_lt (l : List UInt8) (h : ∀ c ∈ l, 16 ≤ digU c) : valU l < 16 ^ l.length := by
  induction l with
  | nil => simp [valU]
  | cons c l ih =>
    have h1 := ih (fun x hx => h x (List.mem_cons_of_mem _ hx))
    have h2 := digU_bd c
    simp only [valU, List.length_cons, Nat.pow_succ]
    omega
theorem valU_snoc (l : List UInt8) (c : UInt8) : valU (l ++ [c]) = valU l + 16 ^ l.length * ((digU c).toNat - 16) := by
  induction l with
  | nil => simp [valU]
  | cons d l ih =>
    simp only [List.cons_append, valU, ih, List.length_cons, Nat.pow_succ, Nat.mul_add]
    have : 16 * (16 ^ l.length * ((digU c).toNat - 16)) = 16 ^ l.length * 16 * ((digU c).toNat - 16) := by rw [← Nat.mul_assoc, Nat.mul_comm 16]
    omega
theorem rd_append (p q : List UInt8) (h : ∀ c ∈ p, 16 ≤ digU c) : rd (p ++ q) = (rd q).map fun x => (valU p + 16 ^ p.length * x.1, x.2 + p.length) := by
  induction p with
  | nil => simp [valU]
  | cons c p ih =>
    have hc := h c List.mem_cons_self
    rw [List.cons_append, rd, if_neg (by omega), if_neg (by omega), ih (fun x hx => h x (List.mem_cons_of_mem _ hx))]
    cases rd q with
    | none => rfl
    | some x =>
      simp only [Option.map_some, valU, List.length_cons, Nat.pow_succ, Nat.mul_add]
      congr 2
      · rw [← Nat.mul_assoc, Nat.mul_comm 16 (16 ^ p.length)]; omega
theorem US.zero (l : List UInt8) : US l 0 := ⟨Nat.zero_le _, by simp⟩
theorem US.lt {l : List UInt8} {j : Nat} (h : US l j) : valU (l.take j) < 16 ^ j := by
  have := valU_lt _ h.2
  rwa [List.length_take, Nat.min_eq_left h.1] at this
theorem US.rd {l : List UInt8} {j : Nat} (h : US l j) : rd l = (rd (l.drop j)).map fun x => (valU (l.take j) + 16 ^ j * x.1, x.2 + j) := by
  have h1 := rd_append (l.take j) (l.drop j) h.2
  rwa [List.take_append_drop, List.length_take, Nat.min_eq_left h.1] at h1
theorem US.succ {l : List UInt8} {j : Nat} (h : US l j) (hj : j < l.length) (hc : 16 ≤ digU l[j]) : US l (j + 1) ∧ valU (l.take (j + 1)) = valU (l.take j) + 16 ^ j * ((digU l[j]).toNat - 16) := by
  have e : l.take (j + 1) = l.take j ++ [l[j]] := List.take_succ_eq_append_getElem hj
  refine ⟨⟨hj, ?_⟩, ?_⟩
  · rw [e]
    intro c hm
    rcases List.mem_append.1 hm with h1 | h1
    · exact h.2 c h1
    · rw [List.mem_singleton.1 h1]; exact hc
  · rw [e, valU_snoc, List.length_take, Nat.min_eq_left h.1]
theorem US.last {l : List UInt8} {j : Nat} (h : US l j) (hj : j < l.length) (h0 : 0 ≤ digU l[j]) (hc : digU l[j] < 16) : Proofs.Ytdkliboehdohdaa.rd l = some (valU (l.take j) + 16 ^ j * (digU l[j]).toNat, j + 1) := by
  rw [h.rd, List.drop_eq_getElem_cons hj, Proofs.Ytdkliboehdohdaa.rd, if_neg (by omega), if_pos hc]
  simp [Nat.add_comm]
theorem US.bad {l : List UInt8} {j : Nat} (h : US l j) (hj : j < l.length) (h0 : digU l[j] < 0) : Proofs.Ytdkliboehdohdaa.rd l = none := by
  rw [h.rd, List.drop_eq_getElem_cons hj, Proofs.Ytdkliboehdohdaa.rd, if_pos h0]; rfl
theorem US.ended {l : List UInt8} {j : Nat} (h : US l j) (hj : l.length ≤ j) : Proofs.Ytdkliboehdohdaa.rd l = none := by
  rw [h.rd, List.drop_eq_nil_of_le hj]; rfl
theorem rd_le (l : List UInt8) : ∀ x, rd l = some x → 1 ≤ x.2 ∧ x.2 ≤ l.length := by
  induction l with
  | nil => intro x h; simp [rd] at h
  | cons c l ih =>
    intro x h
    rw [rd] at h
    split at h
    · simp at h
    · split at h
      · simp at h; subst h; simp
      · cases hr : rd l with
        | none => rw [hr] at h; simp at h
        | some y =>
          rw [hr] at h
          simp at h
          subst h
          have := ih y hr
          simp; omega
theorem rdN_none {l : List UInt8} (h : rd l = none) : rdN l = none := by unfold rdN; rw [h]
theorem rdN_yes {l : List UInt8} {v k : Nat} (h : rd l = some (v, k)) (he : numL (numOf v) = l.take k) : rdN l = some (numOf v, k) := by unfold rdN; rw [h]; simp [he]
theorem rdN_no {l : List UInt8} {v k : Nat} (h : rd l = some (v, k)) (he : numL (numOf v) ≠ l.take k) : rdN l = none := by unfold rdN; rw [h]; simp [he]
theorem US.long {l : List UInt8} {j : Nat} (h : US l j) (hj : 6 ≤ j) : rdN l = none := by
  cases hr : Proofs.Ytdkliboehdohdaa.rd l with
  | none => exact rdN_none hr
  | some x =>
    refine rdN_no (v := x.1) (k := x.2) hr fun e => ?_
    have h1 := numL_length (numOf x.1)
    rw [e, List.length_take] at h1
    have h2 := rd_le l x hr
    rw [h.rd] at hr
    cases hq : Proofs.Ytdkliboehdohdaa.rd (l.drop j) with
    | none => rw [hq] at hr; simp at hr
    | some y =>
      rw [hq] at hr
      simp at hr
      subst hr
      have h3 := rd_le _ y hq
      simp at h1 h2
      omega
theorem digs_last (n : Nat) : ¬ ∀ c ∈ digs n, 16 ≤ digU c := by
  induction n using digs.induct with
  | case1 n h =>
    intro hall
    rw [digs_small h] at hall
    have := hall (letU n) (by simp)
    rw [digU_letU n (by omega)] at this
    omega
  | case2 n h ih =>
    intro hall
    rw [digs_big h] at hall
    exact ih (fun c hc => hall c (List.mem_cons_of_mem _ hc))
/-- Letters that all say that another one follows are no number. -/
theorem US.not_num {l : List UInt8} {j : Nat} (h : US l j) {n : Int} (hj : 1 ≤ j ∨ inB n = true) : numL n ≠ l.take j := by
  intro e
  cases hb : inB n
  · have h1 := congrArg List.length e
    rw [numL_out hb, List.length_take, Nat.min_eq_left h.1] at h1
    simp at h1
    rcases hj with h2 | h2
    · omega
    · rw [hb] at h2; simp at h2
  · rw [numL_in hb] at e
    exact digs_last (codeOf n) (by rw [e]; exact h.2)

theorem rd_digs (n : Nat) (q : List UInt8) : rd (digs n ++ q) = some (n, (digs n).length) := by
  induction n using digs.induct with
  | case1 n h =>
    rw [digs_small h, List.cons_append, rd, digU_letU n (by omega), if_neg (by omega), if_pos (by omega)]
    simp
  | case2 n h ih =>
    rw [digs_big h, List.cons_append, rd, digU_letU _ (by omega), if_neg (by omega), if_neg (by omega), ih]
    simp
    omega
theorem rdN_num {n : Int} (h : inB n = true) (q : List UInt8) : rdN (numL n ++ q) = some (n, (numL n).length) := by
  have h1 := rd_digs (codeOf n) q
  have e := numL_in h
  rw [← e] at h1
  have h2 := rdN_yes h1 (by rw [numOf_codeOf, List.take_left])
  rwa [numOf_codeOf] at h2
/-- No number's letters begin with another number's. -/
theorem num_unique {n m : Int} (hn : inB n = true) (hm : inB m = true) {q r : List UInt8} (h : numL n ++ q = numL m ++ r) : n = m := by
  have h1 := rdN_num hn q
  rw [h, rdN_num hm r] at h1
  simp at h1
  exact h1.1.symm
theorem rdN_some {l : List UInt8} {x : Int × Nat} (h : rdN l = some x) : 1 ≤ x.2 ∧ x.2 ≤ l.length ∧ numL x.1 = l.take x.2 := by
  unfold rdN at h
  split at h
  · simp at h
  · rename_i y hy
    have := rd_le l y hy
    split at h
    · rename_i e
      simp at h
      subst h
      exact ⟨this.1, this.2, e⟩
    · simp at h

end Go.Proofs.Ytdkliboehdohdaa
