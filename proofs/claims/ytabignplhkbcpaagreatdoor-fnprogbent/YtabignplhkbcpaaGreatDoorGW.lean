/-
  BentMath, AppR: these texts one behind the other, as a claim holds at most 60 files.
-/
import Derived.Test.YtabignplhkbcpaaGreatDoorGU
import Derived.Test.YtabignplhkbcpaaGreatDoorGX
namespace Go.Proofs.YtabignplhkbcpaaGreatDoor

def sayNone : St := ⟨2, ⟨#[]⟩, ⟨#[]⟩, .mk 0 0 ⟨#[]⟩ [], .mk 0 0 ⟨#[]⟩ []⟩
def emptyS : St := ⟨0, ⟨#[]⟩, ⟨#[]⟩, .mk 0 0 ⟨#[]⟩ [], .mk 0 0 ⟨#[]⟩ []⟩
theorem do_sayNone : doS sayNone = none := by kernel_rfl
theorem do_empty : doS emptyS = some .noD := by kernel_rfl
theorem deedsL_bad : ∀ (xs : List St) (s : St), doS s = none → deedsL (xs ++ [s]) = none := by
  intro xs s h
  refine deedsL_none (j := xs.length) (by simp) ?_
  simpa using h
theorem doP_bad (xs : List St) : doP (xs ++ [sayNone]) = none := by
  unfold doP
  split
  · exact deedsL_bad xs _ do_sayNone
  · rfl
theorem doP_long {xs : List St} (h : 16 < xs.length) : doP xs = none := by
  unfold doP
  rw [if_neg (by omega)]
theorem doP_nil : doP [] = none := rfl
theorem doP_ahead {xs : List St} {ds : List De} (h : doP xs = some ds) (hl : xs.length < 16) : doP (emptyS :: xs) = some (.noD :: ds) := by
  obtain ⟨h1, _, _⟩ := doP_some h
  unfold doP
  rw [if_pos ⟨by simp, by simp; omega⟩]
  have := deedsL_append [emptyS] xs [.noD] ds (by simp [deedsL, do_empty]) h1
  simpa using this
theorem bent_case {xs : List St} (h : (doP xs).isSome = true) (hl : xs.length < 16) : runP (emptyS :: xs) = runP xs ∧ ((typeP xs = -1 ∧ typeP (emptyS :: xs) = -1) ∨ (0 ≤ typeP xs ∧ typeP (emptyS :: xs) = typeP xs + 1)) := by
  cases hd : doP xs with
  | none => rw [hd] at h; cases h
  | some ds =>
    unfold runP typeP
    rw [hd, doP_ahead hd hl]
    refine ⟨run_empty ds, ?_⟩
    show (typeFrom ds [] [] 0 = -1 ∧ typeFrom (.noD :: ds) [] [] 0 = -1) ∨ (0 ≤ typeFrom ds [] [] 0 ∧ typeFrom (.noD :: ds) [] [] 0 = typeFrom ds [] [] 0 + 1)
    rw [type_empty]
    exact typeFrom_later ds [] [] 0
theorem ok_ahead {xs : List St} (h : (doP xs).isSome = true) : (doP (emptyS :: xs)).isSome = decide (xs.length < 16) := by
  cases hd : doP xs with
  | none => rw [hd] at h; cases h
  | some ds =>
    by_cases hl : xs.length < 16
    · rw [doP_ahead hd hl, decide_eq_true hl]; rfl
    · rw [doP_long (by simp; omega), decide_eq_false hl]; rfl
theorem ok_len {xs : List St} (h : (doP xs).isSome = true) : 1 ≤ xs.length ∧ xs.length ≤ 16 := by
  cases hd : doP xs with
  | none => rw [hd] at h; cases h
  | some ds => exact (doP_some hd).2
end Go.Proofs.YtabignplhkbcpaaGreatDoor

namespace Go.Proofs.YtabignplhkbcpaaGreatDoor
open Go.RowKit

theorem wpList_appR {ops : Array Oper} {rest : List Oper} {o : Oper} {a : Act} {W : World} {Q : Exit → Act → World → Prop} (hgd : o.guard = none) (s x : Operand)
    (ho : o.op = .call { callee := .builtin .append, args := #[s, x], argTypes := #[23, 23] })
    (lo0 : Nat) (v : Value) (n : Nat) (ds : List Ld) (hs : a.eval s = v) (hown : W.ownsRow lo0 36 11 v n (rowL ds))
    (g off m c : Nat) (es : List Ld) (hm : es.length = m) (hx : a.eval x = .slice (some ⟨g, off, none⟩) m c) (hcell : ∀ j u, (rowL es)[j]? = some u → W.cell? ⟨g, off + j, none⟩ = some u)
    (b1 : n + m ≤ 100000) (hbase : lo0 ≤ W.heap.size)
    (h : ∀ v' w', w'.ownsRow lo0 36 11 v' (n + m) (rowL (ds ++ es)) → Below lo0 W w' → wpList Tryz.prog ops Q rest (a.put o.dst v') w') : wpList Tryz.prog ops Q (o :: rest) a W := by
  obtain ⟨i0, hi, hz0, hz1, hz2⟩ := info_lines
  refine wpList_append_own_at W hgd s x 23 ho lo0 36 i0 (.agg zeroSt) 11 i0.bytes Tryz.underlying23 hi hz0 hz1 rfl rfl (by decide) v n (rowL ds) hs hown ⟨g, off, none⟩ m c (rowL es) hx (by rw [rowL_length, hm])
    (fun j u hj => by
      have hp : (⟨g, off, none⟩ : Addr).add j = ⟨g, off + j, none⟩ := by unfold Addr.add; split <;> simp_all
      rw [hp]; exact hcell j u hj)
    (rowL_one' es) (by unfold maxLen; omega) (Nat.le_trans (Nat.mul_le_mul b1 hz2) (by decide)) hbase ?_
  intro v' w' r1 r2 _ _
  refine h v' w' (by rw [rowL_app]; exact r1) ?_
  refine (Below.refl lo0 W).grown r2 hbase fun j ej => ?_
  rcases hown.2 with ⟨rfl, _⟩ | ⟨g, cap, cur, rfl, hb, _, _⟩
  · simp [Value.ownBlock] at ej
  · obtain rfl : g = j := by simpa [Value.ownBlock] using ej
    exact hb
theorem cells_blk' {Y : World} {n : Nat} {d : Ld} (h : Y.heap[n]? = some (.cells (ldC d).toArray 36 (0, 0))) : ∀ j u, (rowL [d])[j]? = some u → Y.cell? ⟨n, 0 + j, none⟩ = some u := by
  intro j u hj
  have hcell : Y.cell? ⟨n, j, none⟩ = (ldC d).toArray[j]? := by simp [World.cell?, h]
  rw [Nat.zero_add, hcell, List.getElem?_toArray]
  simpa [rowL] using hj
/-- A row of one line, just made. -/
theorem owns_one (w : World) (d : Ld) : (w.alloc (.cells (ldC d).toArray 36)).ownsRow w.heap.size 36 11 (.slice (some ⟨w.heap.size, 0, none⟩) 1 1) 1 (rowL [d]) :=
  ⟨rfl, .inr ⟨w.heap.size, 1, (ldC d).toArray, rfl, Nat.le_refl _, World.alloc_heap_new w _, Nat.le_refl _, by simp [maxLen], rfl, by simp [rowL, ldC]⟩⟩
theorem parts_app {W : World} {B : Nat} {ds es : List Ld} (h : ∀ d ∈ ds, (d.s.e.kids.length ≤ d.c1 ∧ d.s.t.kids.length ≤ d.c2) ∧ KidsU W B d.A1 d.s.e.kids ∧ KidsU W B d.A2 d.s.t.kids) (h2 : ∀ d ∈ es, d.s.e.kids = [] ∧ d.s.t.kids = []) :
    ∀ d ∈ ds ++ es, (d.s.e.kids.length ≤ d.c1 ∧ d.s.t.kids.length ≤ d.c2) ∧ KidsU W B d.A1 d.s.e.kids ∧ KidsU W B d.A2 d.s.t.kids := by
  intro d hd
  rcases List.mem_append.1 hd with hd | hd
  · exact h d hd
  · rw [(h2 d hd).1, (h2 d hd).2]
    exact ⟨⟨Nat.zero_le _, Nat.zero_le _⟩, .nil, .nil⟩
end Go.Proofs.YtabignplhkbcpaaGreatDoor
