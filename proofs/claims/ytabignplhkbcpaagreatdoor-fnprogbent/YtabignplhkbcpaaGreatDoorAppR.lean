/-
  append of lines onto a row of one's own.
-/
import Derived.Test.YtabignplhkbcpaaGreatDoorGX
namespace Go.Proofs.YtabignplhkbcpaaGreatDoor
open Go.RowKit

theorem wpList_appR {ops : Array Oper} {rest : List Oper} {o : Oper} {a : Act} {W : World} {Q : Exit → Act → World → Prop} (hgd : o.guard = none) (s x : Operand)
    (ho : o.op = .call { callee := .builtin .append, args := #[s, x], argTypes := #[23, 23] })
    (lo0 : Nat) (v : Value) (n : Nat) (ds : List Ld) (hs : a.eval s = v) (hown : W.ownsRow lo0 36 11 v n (rowL ds))
    (g off m c : Nat) (es : List Ld) (hm : es.length = m) (hx : a.eval x = .slice (some ⟨g, off, none⟩) m c) (hcell : ∀ j u, (rowL es)[j]? = some u → W.cell? ⟨g, off + j, none⟩ = some u)
    (b1 : n + m ≤ 100000) (hbase : lo0 ≤ W.heap.size)
    (h : ∀ v' w', w'.ownsRow lo0 36 11 v' (n + m) (rowL (ds ++ es)) → Below lo0 W w' → wpList Tryz.prog ops Q rest (a.put o.dst v') w') : wpList Tryz.prog ops Q (o :: rest) a W := by
  obtain ⟨i0, hi, hz0, hz1, hz2⟩ := info_lines
  refine wpList_append_own_at W hgd s x 23 ho lo0 36 i0 (.agg zeroSt) 11 i0.bytes Tryz.underlying23 hi hz0 hz1 rfl rfl (by decide) v n (rowL ds) hs hown ⟨g, off, none⟩ m c (rowL es) hx (by rw [rowL_length, hm])
    (fun j u hj => by
      have hp : (⟨g, off, none⟩ : Addr).add j = ⟨g, off + j, none⟩ := by unfold Addr.add; split <;> simp_all
      rw [hp]; exact hcell j u hj)
    (rowL_one' es) (by unfold maxLen; omega) (Nat.le_trans (Nat.mul_le_mul b1 hz2) (by decide)) hbase ?_
  intro v' w' r1 r2 _ _
  refine h v' w' (by rw [rowL_app]; exact r1) ?_
  refine (Below.refl lo0 W).grown r2 hbase fun j ej => ?_
  rcases hown.2 with ⟨rfl, _⟩ | ⟨g, cap, cur, rfl, hb, _, _⟩
  · simp [Value.ownBlock] at ej
  · obtain rfl : g = j := by simpa [Value.ownBlock] using ej
    exact hb
theorem cells_blk' {Y : World} {n : Nat} {d : Ld} (h : Y.heap[n]? = some (.cells (ldC d).toArray 36 (0, 0))) : ∀ j u, (rowL [d])[j]? = some u → Y.cell? ⟨n, 0 + j, none⟩ = some u := by
  intro j u hj
  have hcell : Y.cell? ⟨n, j, none⟩ = (ldC d).toArray[j]? := by simp [World.cell?, h]
  rw [Nat.zero_add, hcell, List.getElem?_toArray]
  simpa [rowL] using hj
/-- A row of one line, just made. -/
theorem owns_one (w : World) (d : Ld) : (w.alloc (.cells (ldC d).toArray 36)).ownsRow w.heap.size 36 11 (.slice (some ⟨w.heap.size, 0, none⟩) 1 1) 1 (rowL [d]) :=
  ⟨rfl, .inr ⟨w.heap.size, 1, (ldC d).toArray, rfl, Nat.le_refl _, World.alloc_heap_new w _, Nat.le_refl _, by simp [maxLen], rfl, by simp [rowL, ldC]⟩⟩
theorem parts_app {W : World} {B : Nat} {ds es : List Ld} (h : ∀ d ∈ ds, (d.s.e.kids.length ≤ d.c1 ∧ d.s.t.kids.length ≤ d.c2) ∧ KidsU W B d.A1 d.s.e.kids ∧ KidsU W B d.A2 d.s.t.kids) (h2 : ∀ d ∈ es, d.s.e.kids = [] ∧ d.s.t.kids = []) :
    ∀ d ∈ ds ++ es, (d.s.e.kids.length ≤ d.c1 ∧ d.s.t.kids.length ≤ d.c2) ∧ KidsU W B d.A1 d.s.e.kids ∧ KidsU W B d.A2 d.s.t.kids := by
  intro d hd
  rcases List.mem_append.1 hd with hd | hd
  · exact h d hd
  · rw [(h2 d hd).1, (h2 d hd).2]
    exact ⟨⟨Nat.zero_le _, Nat.zero_le _⟩, .nil, .nil⟩
end Go.Proofs.YtabignplhkbcpaaGreatDoor
