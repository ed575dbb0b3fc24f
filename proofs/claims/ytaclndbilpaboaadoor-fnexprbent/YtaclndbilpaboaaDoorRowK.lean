/-
  A row of kids of one's own; kids put behind one.
-/
import Derived.Test.YtaclndbilpaboaaDoorOwnMk
import Derived.Laws.AppendOwn
import Derived.Deep.Upon
namespace Go.Proofs.YtaclndbilpaboaaDoor
open Go.RowKit

def zeroK : Array Value := #[.int .i64 0, .int .i64 0, .string ByteArray.empty, .slice none 0 0]
theorem infoExK : (Tryd.prog.info? 29).map (fun i => (i.zero, i.size, i.bytes)) = some (some (.agg zeroK), 4, 56) := by kernel_rfl
/-- A kid: what it is, and where its kids lie. -/
abbrev Kd := Ex × Option Addr × Nat
def kdC (d : Kd) : List Value := kidCells d.1 d.2.1 d.2.2
def rowK (ds : List Kd) : List Value := ds.flatMap kdC
theorem rowK_append (xs ys : List Kd) : rowK (xs ++ ys) = rowK xs ++ rowK ys := by simp [rowK]
theorem rowK_cons (x : Kd) (xs : List Kd) : rowK (x :: xs) = kdC x ++ rowK xs := by simp [rowK]
theorem kdC_length (x : Kd) : (kdC x).length = 4 := rfl
theorem rowK_length (xs : List Kd) : (rowK xs).length = xs.length * 4 := by
  induction xs with
  | nil => rfl
  | cons x xs ih => rw [rowK_cons, List.length_append, kdC_length, ih, List.length_cons]; omega
theorem rowK_one (xs : List Kd) : ∀ u ∈ rowK xs, u.oneCell' = true := by
  intro u hu
  unfold rowK at hu
  obtain ⟨d, _, hd⟩ := List.mem_flatMap.1 hu
  simp [kdC, kidCells] at hd
  rcases hd with rfl | rfl | rfl | rfl <;> rfl
theorem rowK_get (xs : List Kd) : ∀ (k : Nat) (hk : k < xs.length) (i : Nat), i < 4 → (rowK xs)[k * 4 + i]? = (kdC xs[k])[i]? := by
  induction xs with
  | nil => intro k hk; simp at hk
  | cons x xs ih =>
    intro k hk i hi
    rw [rowK_cons]
    cases k with
    | zero => rw [Nat.zero_mul, Nat.zero_add, List.getElem?_append_left (by rw [kdC_length]; exact hi)]; rfl
    | succ k =>
      rw [List.getElem?_append_right (by rw [kdC_length]; omega), kdC_length, show (k + 1) * 4 + i - 4 = k * 4 + i by omega]
      exact ih k (by simpa using hk) i hi
/-- The kids of a row. -/
theorem kidsAt_row {w : World} {B base g n cap : Nat} {ds : List Kd} (h : w.ownsRow base 29 4 (.slice (some ⟨g, 0, none⟩) n cap) n (rowK ds)) (hn : ds.length = n) (hg : g < B)
    (hd : ∀ d ∈ ds, d.1.kids.length ≤ d.2.2 ∧ KidsAt w B d.2.1 d.1.kids) : KidsAt w B (some ⟨g, 0, none⟩) (ds.map (·.1)) := by
  refine KidsAt.of hg (fun j hj => ?_)
  rw [List.length_map] at hj
  have cell : ∀ i, i < 4 → w.cell? ⟨g, 0 + j * 4 + i, none⟩ = (kdC ds[j])[i]? := by
    intro i hi
    rw [Nat.zero_add, h.cellAt (j * 4 + i) (by omega)]
    exact rowK_get ds j hj i hi
  have hx := hd _ (List.getElem_mem hj)
  simp only [List.getElem_map]
  exact ⟨ds[j].2.1, ds[j].2.2, cell 0 (by omega), cell 1 (by omega), cell 2 (by omega), cell 3 (by omega), hx.1, hx.2⟩
/-- Kids as they lie somewhere. -/
theorem KidsAt.row {w : World} {B : Nat} {A : Option Addr} {ks : List Ex} (h : KidsAt w B A ks) : ∃ ds : List Kd, ds.map (·.1) = ks ∧ (∀ d ∈ ds, d.1.kids.length ≤ d.2.2 ∧ KidsAt w B d.2.1 d.1.kids) ∧
    (ks = [] ∨ ∃ g off, A = some ⟨g, off, none⟩ ∧ g < B ∧ ∀ j u, (rowK ds)[j]? = some u → w.cell? ⟨g, off + j, none⟩ = some u) := by
  cases h with
  | nil => exact ⟨[], rfl, (fun d hd => by cases hd), .inl rfl⟩
  | @mk g off _ D c hg h0 h1 h2 h3 hc hk =>
    refine ⟨ks.mapIdx (fun j e => (e, D j, c j)), ?_, ?_, .inr ⟨g, off, rfl, hg, ?_⟩⟩
    · apply List.ext_getElem
      · simp
      · intro j h1 h2; simp
    · intro d hd
      obtain ⟨j, hj, rfl⟩ := List.mem_mapIdx.1 hd
      exact ⟨hc j hj, hk j hj⟩
    · intro j u hu
      have hj : j < ks.length * 4 := by
        have := (List.getElem?_eq_some_iff.1 hu).1
        rw [rowK_length, List.length_mapIdx] at this
        exact this
      have hq : j / 4 < ks.length := by omega
      have hg := rowK_get (ks.mapIdx (fun j e => (e, D j, c j))) (j / 4) (by simpa using hq) (j % 4) (by omega)
      rw [show j / 4 * 4 + j % 4 = j by omega, hu] at hg
      simp only [List.getElem_mapIdx] at hg
      have e0 := h0 (j / 4) hq
      have e1 := h1 (j / 4) hq
      have e2 := h2 (j / 4) hq
      have e3 := h3 (j / 4) hq
      have hm : j % 4 = 0 ∨ j % 4 = 1 ∨ j % 4 = 2 ∨ j % 4 = 3 := by omega
      rcases hm with hm | hm | hm | hm <;> rw [hm] at hg <;> simp [kdC, kidCells] at hg
      · rw [show off + j = off + j / 4 * 4 by omega, e0, hg]
      · rw [show off + j = off + j / 4 * 4 + 1 by omega, e1, hg]
      · rw [show off + j = off + j / 4 * 4 + 2 by omega, e2, hg]
      · rw [show off + j = off + j / 4 * 4 + 3 by omega, e3, hg]

/-- append of kids onto a row of one's own. -/
theorem wpList_append_kids {ops : Array Oper} {rest : List Oper} {o : Oper} {a : Act} {W : World} {Q : Exit → Act → World → Prop} (hgd : o.guard = none) (s x : Operand)
    (ho : o.op = .call { callee := .builtin .append, args := #[s, x], argTypes := #[27, 27] })
    (base g n c : Nat) (xs : List Kd) (hs : a.eval s = .slice (some ⟨g, 0, none⟩) n c) (hown : W.ownsRow base 29 4 (.slice (some ⟨g, 0, none⟩) n c) n (rowK xs))
    (A : Option Addr) (m cx : Nat) (ds : List Kd) (hx : a.eval x = .slice A m cx) (hm : ds.length = m) (hsrc : m = 0 ∨ ∃ g off, A = some ⟨g, off, none⟩ ∧ ∀ j u, (rowK ds)[j]? = some u → W.cell? ⟨g, off + j, none⟩ = some u)
    (b1 : n + m ≤ 100000) (hbase : base ≤ W.heap.size)
    (h : ∀ g' c' w', w'.ownsRow base 29 4 (.slice (some ⟨g', 0, none⟩) (n + m) c') (n + m) (rowK (xs ++ ds)) → W.grownBy w' (some g) → g' < w'.heap.size → wpList Tryd.prog ops Q rest (a.put o.dst (.slice (some ⟨g', 0, none⟩) (n + m) c')) w') : wpList Tryd.prog ops Q (o :: rest) a W := by
  obtain ⟨i0, hi, hzz⟩ := Option.map_eq_some_iff.1 infoExK
  simp only [Prod.mk.injEq] at hzz
  obtain ⟨hz0, hz1, hz2⟩ := hzz
  have hlt : ∀ {W' : World} {g' n' c' : Nat} {ys : List Value}, W'.ownsRow base 29 4 (.slice (some ⟨g', 0, none⟩) n' c') n' ys → g' < W'.heap.size ∧ n' ≤ c' := by
    intro W' g' n' c' ys h'
    rcases h'.2 with ⟨h0, _⟩ | ⟨g2, _, _, hv, _, hgb, hc, _⟩
    · cases h0
    · injection hv with h1 h2 h3
      injection h1 with h1
      injection h1 with h1
      subst h1 h3
      exact ⟨(Array.getElem?_eq_some_iff.1 hgb).1, hc⟩
  rcases hsrc with h0 | ⟨g1, off, rfl, hc⟩
  · subst h0
    have hds : ds = [] := List.eq_nil_of_length_eq_zero hm
    subst hds
    have hle := (hlt hown).2
    have hrun : (Builtin.append_ #[27, 27] o.type #[.slice (some ⟨g, 0, none⟩) n c, .slice A 0 cx]).run Tryd.prog W = .ok (.slice (some ⟨g, 0, none⟩) n c) W := by
      cases A with
      | none => exact run_append_nothing W 27 27 o.type 29 i0 Tryd.underlying27 hi _ n c hle _ (Src.ofNil W Tryd.underlying27 cx)
      | some ad => exact run_append_nothing W 27 27 o.type 29 i0 Tryd.underlying27 hi _ n c hle _ (Src.ofSlice W Tryd.underlying27 ad 0 cx [] (by simp) (fun j u h => by simp at h) (fun u h => by cases h))
    refine wpList_plain hgd fun K hK => ?_
    unfold Oper.wp
    simp [execOp, ho, resolve, invoke, builtin, hs, hx, hrun, Result.andThen, Oper.upon]
    exact hK _ _ (by simpa using h g c W (by simpa using hown) ⟨rfl, rfl, rfl, Nat.le_refl _, fun _ _ _ => rfl⟩ (hlt hown).1)
  · refine wpList_append_own W hgd s x 27 ho base 29 i0 (.agg zeroK) 4 56 Tryd.underlying27 hi hz0 hz1 hz2 rfl (by decide) _ n (rowK xs) hs hown ⟨g1, off, none⟩ m cx (rowK ds) hx (by rw [rowK_length, hm])
      (fun j u hj => by
        have hp : (⟨g1, off, none⟩ : Addr).add j = ⟨g1, off + j, none⟩ := by unfold Addr.add; split <;> simp_all
        rw [hp]; exact hc j u hj) (rowK_one ds) (by unfold maxLen; omega) (by omega) hbase ?_
    intro v' w' q1 q2 q3
    rcases Nat.eq_zero_or_pos (n + m) with h0 | h0
    · have hv : v' ≠ .slice none 0 0 := fun e => by have := (q3.1 e).1; cases this
      rcases q1.2 with ⟨e, _⟩ | ⟨g2, c2, _, e, _, _, _⟩
      · exact absurd e hv
      · subst e
        exact h g2 c2 w' (by rw [rowK_append]; exact q1) q2 (hlt q1).1
    · obtain ⟨g2, c2, e, _, r5⟩ := q1.form h0
      subst e
      exact h g2 c2 w' (by rw [rowK_append]; exact q1) q2 r5
end Go.Proofs.YtaclndbilpaboaaDoor
