/-
  MapStr, App1: these texts one behind the other, as a claim holds at most 60 files.
-/
import Derived.Test.YtabignplhkbcpaaGreatDoorGA
import Derived.Test.YtabignplhkbcpaaGreatDoorGB
import Derived.LaidEql
import Derived.MapKept
import Derived.WideKeyRuns
import Derived.WalkKit
import Derived.Test.YtabignplhkbcpaaGreatDoorInts
import Derived.Maps.AppendAt
namespace Go.Proofs.YtabignplhkbcpaaGreatDoor

/-- Where a text stands as a key, and what stands with it. -/
def findE : List MapEntry → ByteArray → Nat → Option (Nat × Value)
  | [], _, _ => none
  | e :: es, s, i => match e.key with
    | .string t => if s = t then some (i, e.val) else findE es s (i + 1)
    | _ => findE es s (i + 1)
def IsKS (e : MapEntry) : Prop := ∃ s, e.key = .string s
theorem findNow_str (s : ByteArray) : ∀ (es : List MapEntry) (i : Nat), (∀ e ∈ es, IsKS e) → Instr.findNow .string (.string s) es i = some (findE es s i) := by
  intro es
  induction es with
  | nil => intro i _; rfl
  | cons e es ih =>
    intro i h
    obtain ⟨t, ht⟩ := h e (by simp)
    have hih := ih (i + 1) (fun x hx => h x (by simp [hx]))
    by_cases he : s = t
    · have hb : (s == t) = true := by rw [he]; exact (MapKept.bytes_beq t t).2 rfl
      simp only [Instr.findNow, Instr.sameNow, ht, findE, hb, if_pos he]
    · have hb : (s == t) = false := by
        rw [Bool.eq_false_iff]; intro h2; exact he ((MapKept.bytes_beq s t).1 h2)
      simp only [Instr.findNow, Instr.sameNow, ht, findE, hb, if_neg he, hih]
theorem findE_lt (s : ByteArray) : ∀ (es : List MapEntry) (i j : Nat) (v : Value), findE es s i = some (j, v) → i ≤ j ∧ j < i + es.length ∧ (es[j - i]?).map (·.key) = some (.string s) := by
  intro es
  induction es with
  | nil => intro i j v h; cases h
  | cons e es ih =>
    intro i j v h
    have step : findE es s (i + 1) = some (j, v) → i ≤ j ∧ j < i + (e :: es).length ∧ ((e :: es)[j - i]?).map (·.key) = some (.string s) := by
      intro h1
      obtain ⟨h2, h3, h4⟩ := ih _ _ _ h1
      refine ⟨by omega, by simp only [List.length_cons]; omega, ?_⟩
      rw [show j - i = (j - (i + 1)) + 1 by omega, List.getElem?_cons_succ]
      exact h4
    rw [findE] at h
    cases hk : e.key with
    | string t =>
      rw [hk] at h
      simp only at h
      by_cases he : s = t
      · rw [if_pos he] at h
        cases h
        exact ⟨Nat.le_refl _, by simp, by simp [hk, he]⟩
      · rw [if_neg he] at h
        exact step h
    | _ =>
      rw [hk] at h
      exact step h
/-- What stands with a text. -/
def lookE (es : List MapEntry) (s : ByteArray) : Option Value := (findE es s 0).map (·.2)
theorem findE_shift (s : ByteArray) : ∀ (es : List MapEntry) (i : Nat), (findE es s i).map (·.2) = lookE es s := by
  intro es
  induction es with
  | nil => intro i; rfl
  | cons e es ih =>
    intro i
    unfold lookE
    rw [findE, findE]
    cases e.key with
    | string t =>
      simp only
      by_cases he : s = t
      · rw [if_pos he, if_pos he]; rfl
      · rw [if_neg he, if_neg he, ih (i + 1), ih (0 + 1)]
    | _ => simp only; rw [ih (i + 1), ih (0 + 1)]
theorem lookE_cons (e : MapEntry) (es : List MapEntry) (s t : ByteArray) (h : e.key = .string t) : lookE (e :: es) s = if s = t then some e.val else lookE es s := by
  unfold lookE
  rw [findE, h]
  simp only
  by_cases he : s = t
  · rw [if_pos he, if_pos he]; rfl
  · rw [if_neg he, if_neg he]; exact findE_shift s es (0 + 1)
theorem lookE_push (s : ByteArray) (v : Value) (n : Nat) : ∀ (es : List MapEntry), (∀ e ∈ es, IsKS e) → lookE es s = none → ∀ t, lookE (es ++ [⟨.string s, v, n⟩]) t = if t = s then some v else lookE es t := by
  intro es
  induction es with
  | nil =>
    intro _ _ t
    rw [List.nil_append, lookE_cons _ _ t s rfl]
  | cons e es ih =>
    intro h hn t
    obtain ⟨k, hk⟩ := h e (by simp)
    rw [lookE_cons e es s k hk] at hn
    have hne : ¬ s = k := by intro e0; rw [if_pos e0] at hn; cases hn
    rw [if_neg hne] at hn
    rw [List.cons_append, lookE_cons _ _ t k hk, lookE_cons _ _ t k hk, ih (fun x hx => h x (by simp [hx])) hn t]
    by_cases h1 : t = k
    · rw [if_pos h1, if_pos h1, if_neg (fun h2 => hne (h2.symm.trans h1))]
    · rw [if_neg h1, if_neg h1]
theorem lookE_set (s : ByteArray) (v : Value) : ∀ (es : List MapEntry) (i j : Nat) (u : Value), (∀ e ∈ es, IsKS e) → findE es s i = some (i + j, u) → ∀ t, lookE (es.modify j fun e => { e with key := .string s, val := v }) t = if t = s then some v else lookE es t := by
  intro es
  induction es with
  | nil => intro i j u _ h; cases h
  | cons e es ih =>
    intro i j u h hf t
    obtain ⟨k, hk⟩ := h e (by simp)
    rw [findE, hk] at hf
    simp only at hf
    by_cases he : s = k
    · rw [if_pos he] at hf
      obtain ⟨hj, _⟩ := Prod.mk.injEq .. ▸ Option.some.inj hf
      obtain rfl : j = 0 := by omega
      rw [List.modify_zero_cons, lookE_cons _ _ t s rfl, lookE_cons e es t k hk]
      by_cases h1 : t = s
      · rw [if_pos h1, if_pos h1]
      · rw [if_neg h1, if_neg h1, if_neg (fun h2 => h1 (h2.trans he.symm))]
    · rw [if_neg he] at hf
      have hlt := (findE_lt s es (i + 1) (i + j) u hf).1
      obtain ⟨m, rfl⟩ : ∃ m, j = m + 1 := ⟨j - 1, by omega⟩
      rw [List.modify_succ_cons, lookE_cons _ _ t k hk, lookE_cons e es t k hk, ih (i + 1) m u (fun x hx => h x (by simp [hx])) (by rw [show i + 1 + m = i + (m + 1) by omega]; exact hf) t]
      by_cases h1 : t = k
      · rw [if_pos h1, if_pos h1, if_neg (fun h2 => he (h2.symm.trans h1))]
      · rw [if_neg h1, if_neg h1]

/-- The map at block b tells this of each text. -/
def MapS (w : World) (b : Nat) (F : ByteArray → Option Value) : Prop := ∃ es clock, w.heap[b]? = some (.map es clock) ∧ (∀ e ∈ es.toList, IsKS e) ∧ ∀ s, lookE es.toList s = F s
theorem MapS.lt {w : World} {b : Nat} {F : ByteArray → Option Value} (h : MapS w b F) : b < w.heap.size := by
  obtain ⟨es, clock, h1, _⟩ := h
  exact (Array.getElem?_eq_some_iff.1 h1).1
theorem MapS.stay {w w' : World} {b : Nat} {F : ByteArray → Option Value} (h : MapS w b F) (hb : w'.heap[b]? = w.heap[b]?) : MapS w' b F := by
  obtain ⟨es, clock, h1, h2⟩ := h
  exact ⟨es, clock, hb.trans h1, h2⟩
theorem mapS_new (w : World) : MapS (w.alloc (.map #[] 0)) w.heap.size (fun _ => none) := ⟨#[], 0, World.alloc_heap_new w _, by simp, fun _ => rfl⟩
theorem isKey_str (s : ByteArray) : MapKept.IsKey .string (.string s) := by first | exact trivial | exact ⟨_, rfl⟩ | simp [MapKept.IsKey]
theorem mapS_lookup {P : Program} {w : World} {b : Nat} {F : ByteArray → Option Value} (h : MapS w b F) {T K E : TypeId} (hT : P.underlying T = some (.map K E)) (hK : P.underlying K = some .string) {z : Value} (hz : ∀ w, (zeroValue E).run P w = .ok z w) (s : ByteArray) :
    (Instr.lookup T (.map (some b)) (.string s) true).run P w = .ok (.tuple #[(F s).getD z, .bool (F s).isSome]) w := by
  obtain ⟨es, clock, h1, h2, h3⟩ := h
  have hf := findNow_str s es.toList 0 h2
  have hr := MapKept.run_findKey (w := w) hK hf
  have h4 := h3 s
  unfold lookE at h4
  unfold Instr.lookup
  cases hx : findE es.toList s 0 with
  | none =>
    rw [hx] at hr h4
    rw [← h4]
    simp [run_underlying hT, MapKept.run_getObj_map h1, MapKept.run_checkKey hK (isKey_str s), hr, Result.andThen, hz]
  | some x =>
    rw [hx] at hr h4
    rw [← h4]
    simp [run_underlying hT, MapKept.run_getObj_map h1, MapKept.run_checkKey hK (isKey_str s), hr, Result.andThen]
theorem mapS_update {P : Program} {w : World} {b : Nat} {F : ByteArray → Option Value} (h : MapS w b F) {T K E : TypeId} (hT : P.underlying T = some (.map K E)) (hK : P.underlying K = some .string) (s : ByteArray) (v : Value) :
    ∃ o, (Instr.mapUpdate T (.map (some b)) (.string s) v).run P w = .ok () { w with heap := w.heap.setIfInBounds b o } ∧ MapS { w with heap := w.heap.setIfInBounds b o } b (fun t => if t = s then some v else F t) := by
  obtain ⟨es, clock, h1, h2, h3⟩ := h
  have hf := findNow_str s es.toList 0 h2
  have hr := MapKept.run_findKey (w := w) hK hf
  cases hx : findE es.toList s 0 with
  | none =>
    rw [hx] at hr
    refine ⟨.map (es.push ⟨.string s, v, clock⟩) (clock + 1), ?_, es.push ⟨.string s, v, clock⟩, clock + 1, (MapKept.heap_set h1).1, ?_, ?_⟩
    · simp [Instr.mapUpdate, run_underlying hT, MapKept.run_getObj_map h1, MapKept.run_checkKey hK (isKey_str s), hr, Result.andThen, MapKept.run_setObj_map _ h1]
    · intro e he
      rw [Array.toList_push] at he
      rcases List.mem_append.1 he with h4 | h4
      · exact h2 e h4
      · rw [List.mem_singleton.1 h4]; exact ⟨s, rfl⟩
    · intro t
      rw [Array.toList_push, lookE_push s v clock es.toList h2 (by unfold lookE; rw [hx]; rfl) t, h3 t]
  | some x =>
    obtain ⟨j, u⟩ := x
    rw [hx] at hr
    obtain ⟨_, h4, h5⟩ := findE_lt s es.toList 0 j u hx
    have hk : ((es[j]?).map (·.key)).getD (.string s) = .string s := by
      rw [Nat.sub_zero, Array.getElem?_toList] at h5
      rw [h5]; rfl
    have hks := MapKept.run_keyThatStays (P := P) (w := w) (isKey_str s)
    refine ⟨.map (es.modify j fun e => { e with key := .string s, val := v }) clock, ?_, es.modify j fun e => { e with key := .string s, val := v }, clock, (MapKept.heap_set h1).1, ?_, ?_⟩
    · simp [Instr.mapUpdate, run_underlying hT, MapKept.run_getObj_map h1, MapKept.run_checkKey hK (isKey_str s), hr, Result.andThen, MapKept.run_setObj_map _ h1, hk, hks]
    · intro e he
      rw [Array.toList_modify] at he
      obtain ⟨i, hi, rfl⟩ := List.mem_iff_getElem.1 he
      rw [List.getElem_modify]
      split
      · exact ⟨s, rfl⟩
      · exact h2 _ (List.getElem_mem _)
    · intro t
      rw [Array.toList_modify, lookE_set s v es.toList 0 j u h2 (by rw [Nat.zero_add]; exact hx) t, h3 t]
/-- What a list of names and of what was told tells last of each. -/
def tellF {α : Type} (val : α → Value) (d : α) (ss : List ByteArray) (vs : List α) (s : ByteArray) : Option Value := (lastOf ss s).map fun i => val (vs.getD i d)
theorem findL_more' (names more : List ByteArray) (s : ByteArray) : ∀ k, k ≤ names.length → findL (names ++ more) s k = findL names s k := by
  intro k
  induction k with
  | zero => intro _; rfl
  | succ k ih =>
    intro hk
    have hg : (names ++ more).getD k ByteArray.empty = names.getD k ByteArray.empty := by
      simp only [List.getD_eq_getElem?_getD]
      rw [List.getElem?_append_left (by omega)]
    rw [findL, findL, hg, ih (by omega)]
theorem lastOf_snoc' (ss : List ByteArray) (n s : ByteArray) : lastOf (ss ++ [n]) s = if s = n then some ss.length else lastOf ss s := by
  have hg : (ss ++ [n]).getD ss.length ByteArray.empty = n := by
    simp only [List.getD_eq_getElem?_getD]
    rw [List.getElem?_append_right (Nat.le_refl _)]
    simp
  unfold lastOf
  rw [List.length_append, List.length_singleton, findL, hg]
  by_cases h : s = n
  · rw [if_pos h.symm, if_pos h]
  · rw [if_neg (fun e => h e.symm), if_neg h]
    exact findL_more' ss [n] s _ (Nat.le_refl _)
theorem findL_lt' {ss : List ByteArray} {s : ByteArray} : ∀ {k i : Nat}, findL ss s k = some i → i < k := by
  intro k
  induction k with
  | zero => intro i h; cases h
  | succ k ih =>
    intro i h
    rw [findL] at h
    split at h
    · cases h; omega
    · have := ih h; omega
theorem tellF_snoc {α : Type} (val : α → Value) (d : α) (ss : List ByteArray) (vs : List α) (hl : ss.length = vs.length) (n : ByteArray) (v : α) : tellF val d (ss ++ [n]) (vs ++ [v]) = fun t => if t = n then some (val v) else tellF val d ss vs t := by
  funext t
  unfold tellF
  rw [lastOf_snoc']
  by_cases h : t = n
  · rw [if_pos h, if_pos h, Option.map_some]
    simp [hl]
  · rw [if_neg h, if_neg h]
    cases hx : lastOf ss t with
    | none => rfl
    | some i =>
      have hi : i < ss.length := findL_lt' hx
      simp only [Option.map_some, List.getD_eq_getElem?_getD]
      rw [List.getElem?_append_left (by omega)]
end Go.Proofs.YtabignplhkbcpaaGreatDoor

namespace Go.Proofs.YtabignplhkbcpaaGreatDoor
open Go.RowKit

/-- Memory of one's own in this block. -/
def RowB (w : World) (base b : Nat) (t : TypeId) (v : Value) (xs : List Value) : Prop := w.ownsRow base t 1 v xs.length xs ∧ v.ownBlock = some b
theorem RowB.lt {w : World} {base b : Nat} {t : TypeId} {v : Value} {xs : List Value} (h : RowB w base b t v xs) : base ≤ b ∧ b < w.heap.size := by
  rcases h.1.2 with ⟨hv, _⟩ | ⟨g, cap, cur, hv, h1, h2, _⟩
  · rw [hv] at h; simp [RowB, Value.ownBlock] at h
  · have h3 := h.2
    rw [hv] at h3
    simp [Value.ownBlock] at h3
    subst h3
    exact ⟨h1, (Array.getElem?_eq_some_iff.1 h2).1⟩
theorem RowB.keep {w w' : World} {base b : Nat} {t : TypeId} {v : Value} {xs : List Value} {row : Option Nat} (h : RowB w base b t v xs) (hg : w.grownBy w' row) (hne : row ≠ some b) : RowB w' base b t v xs :=
  ⟨h.1.kept hg (.inr (by rw [h.2]; exact fun e => hne e.symm)), h.2⟩
theorem RowB.below {w w' : World} {base b : Nat} {t : TypeId} {v : Value} {xs : List Value} (h : RowB w base b t v xs) (hb : Below w.heap.size w w') : RowB w' base b t v xs := ⟨own_below h.1 hb, h.2⟩
theorem rowB_empty (w : World) (t : TypeId) : RowB (w.alloc (.cells #[] t)) w.heap.size w.heap.size t (.slice (some ⟨w.heap.size, 0, none⟩) 0 0) [] := ⟨ownsRow_empty w t, rfl⟩
theorem RowB.base {w : World} {base base' b : Nat} {t : TypeId} {v : Value} {xs : List Value} (h : RowB w base b t v xs) (hb : base' ≤ base) : RowB w base' b t v xs := by
  refine ⟨⟨h.1.1, ?_⟩, h.2⟩
  rcases h.1.2 with h1 | ⟨g, cap, cur, h1, h2, h3⟩
  · exact .inl h1
  · exact .inr ⟨g, cap, cur, h1, Nat.le_trans hb h2, h3⟩
theorem RowB.slice {w : World} {base b : Nat} {t : TypeId} {v : Value} {xs : List Value} (h : RowB w base b t v xs) : ∃ A c, v = .slice A xs.length c ∧ xs.length ≤ c ∧ SlIs w A xs := by
  obtain ⟨A, c, rfl, hc⟩ := own_slice h.1
  exact ⟨A, c, rfl, hc, SlIs.own h.1⟩
theorem info_partsA {t : TypeId} {z : Value} {k b : Nat} (h : (Tryz.prog.info? t).map (fun i => (i.zero, i.size, i.bytes)) = some (some z, k, b)) : ∃ i, Tryz.prog.info? t = some i ∧ i.zero = some z ∧ i.size = k ∧ i.bytes = b := by
  obtain ⟨i, hi, hzz⟩ := Option.map_eq_some_iff.1 h
  simp only [Prod.mk.injEq] at hzz
  exact ⟨i, hi, hzz.1, hzz.2.1, hzz.2.2⟩
theorem wpList_app1S {ops : Array Oper} {rest : List Oper} {o : Oper} {a : Act} {W : World} {Q : Exit → Act → World → Prop} (hgd : o.guard = none) (s x : Operand)
    (ho : o.op = .call { callee := .builtin .append, args := #[s, x], argTypes := #[50, 50] })
    (base b : Nat) (v : Value) (ss : List ByteArray) (hs : a.eval s = v) (hown : RowB W base b 9 v (ss.map strV))
    (g : Nat) (t : ByteArray) (hx : a.eval x = .slice (some ⟨g, 0, none⟩) 1 1) (hsrc : W.cell? ⟨g, 0, none⟩ = some (.string t))
    (b1 : ss.length ≤ 100000) (hbase : base ≤ W.heap.size)
    (h : ∀ v' w' b', RowB w' base b' 9 v' ((ss ++ [t]).map strV) → W.grownBy w' (some b) → (b' = b ∨ b' = W.heap.size) → wpList Tryz.prog ops Q rest (a.put o.dst v') w') : wpList Tryz.prog ops Q (o :: rest) a W := by
  obtain ⟨i0, hi, hz0, hz1, hz2⟩ := info_partsA infoStr
  have hown1 := hown.1
  rw [List.length_map] at hown1
  refine wpList_append_own_at W hgd s x 50 ho base 9 i0 (.string ByteArray.empty) 1 16 Tryz.underlying50 hi hz0 hz1 hz2 rfl (by decide) v ss.length (ss.map strV) hs hown1 ⟨g, 0, none⟩ 1 1 [.string t] hx rfl
    (fun j u hj => by
      match j, hj with
      | 0, hj => simp at hj; subst hj; exact hsrc
      | j + 1, hj => simp at hj) (by simp [Value.oneCell']) (by unfold maxLen; omega) (by omega) hbase ?_
  intro v' w' q1 q2 _ q4
  have e : (ss ++ [t]).map strV = ss.map strV ++ [.string t] := by simp [strV]
  have hlt := hown.lt
  rcases q4 with q4 | q4
  · exact h v' w' b ⟨by rw [e]; simpa using q1, q4.trans hown.2⟩ (hown.2 ▸ q2) (.inl rfl)
  · exact h v' w' W.heap.size ⟨by rw [e]; simpa using q1, q4⟩ (hown.2 ▸ q2) (.inr rfl)
theorem wpList_app1I {ops : Array Oper} {rest : List Oper} {o : Oper} {a : Act} {W : World} {Q : Exit → Act → World → Prop} (hgd : o.guard = none) (s x : Operand)
    (ho : o.op = .call { callee := .builtin .append, args := #[s, x], argTypes := #[25, 25] })
    (base b : Nat) (v : Value) (zs : List Int) (hs : a.eval s = v) (hown : RowB W base b 3 v (zs.map intV))
    (g : Nat) (z : Int) (hx : a.eval x = .slice (some ⟨g, 0, none⟩) 1 1) (hsrc : W.cell? ⟨g, 0, none⟩ = some (.int .i64 z))
    (b1 : zs.length ≤ 100000) (hbase : base ≤ W.heap.size)
    (h : ∀ v' w' b', RowB w' base b' 3 v' ((zs ++ [z]).map intV) → W.grownBy w' (some b) → (b' = b ∨ b' = W.heap.size) → wpList Tryz.prog ops Q rest (a.put o.dst v') w') : wpList Tryz.prog ops Q (o :: rest) a W := by
  obtain ⟨i0, hi, hz0, hz1, hz2⟩ := info_partsA infoInt
  have hown1 := hown.1
  rw [List.length_map] at hown1
  refine wpList_append_own_at W hgd s x 25 ho base 3 i0 (.int .i64 0) 1 8 Tryz.underlying25 hi hz0 hz1 hz2 rfl (by decide) v zs.length (zs.map intV) hs hown1 ⟨g, 0, none⟩ 1 1 [.int .i64 z] hx rfl
    (fun j u hj => by
      match j, hj with
      | 0, hj => simp at hj; subst hj; exact hsrc
      | j + 1, hj => simp at hj) (by simp [Value.oneCell']) (by unfold maxLen; omega) (by omega) hbase ?_
  intro v' w' q1 q2 _ q4
  have e : (zs ++ [z]).map intV = zs.map intV ++ [.int .i64 z] := by simp [intV]
  have hlt := hown.lt
  rcases q4 with q4 | q4
  · exact h v' w' b ⟨by rw [e]; simpa using q1, q4.trans hown.2⟩ (hown.2 ▸ q2) (.inl rfl)
  · exact h v' w' W.heap.size ⟨by rw [e]; simpa using q1, q4⟩ (hown.2 ▸ q2) (.inr rfl)
theorem RowB.grown_below {W W' : World} {B base b : Nat} {t : TypeId} {v : Value} {xs : List Value} (h : RowB W base b t v xs) (hB : B ≤ base) (hg : W.grownBy W' (some b)) : Below B W W' :=
  ⟨hg.os, hg.tape, hg.output, hg.size, fun i hi => hg.block i (by have := h.lt; omega) (fun e => by injection e with e; have := h.lt; omega)⟩
end Go.Proofs.YtabignplhkbcpaaGreatDoor
