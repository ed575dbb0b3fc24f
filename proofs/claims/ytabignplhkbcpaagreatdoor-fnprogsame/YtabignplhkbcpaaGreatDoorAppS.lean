/-
  Texts put behind a row of texts of one's own.
-/
import Derived.Test.YtabignplhkbcpaaGreatDoorGB
import Derived.Laws.AppendOwn
namespace Go.Proofs.YtabignplhkbcpaaGreatDoor
open Go.RowKit

theorem infoS : (Tryz.prog.info? 9).map (fun i => (i.zero, i.size, i.bytes)) = some (some (.string ByteArray.empty), 1, 16) := by kernel_rfl
theorem strs_oneS (ts : List ByteArray) : ∀ u ∈ ts.map strV, u.oneCell' = true := by
  intro u hu
  obtain ⟨t, _, rfl⟩ := List.mem_map.1 hu
  rfl
theorem wpList_appS {ops : Array Oper} {rest : List Oper} {o : Oper} {a : Act} {W : World} {Q : Exit → Act → World → Prop} (hgd : o.guard = none) (s x : Operand)
    (ho : o.op = .call { callee := .builtin .append, args := #[s, x], argTypes := #[50, 50] })
    (base : Nat) (v : Value) (ss : List ByteArray) (hs : a.eval s = v) (hown : W.ownsRow base 9 1 v ss.length (ss.map strV))
    (g off m cx : Nat) (ts : List ByteArray) (hx : a.eval x = .slice (some ⟨g, off, none⟩) m cx) (hm : ts.length = m) (hsrc : ∀ j u, (ts.map strV)[j]? = some u → W.cell? ⟨g, off + j, none⟩ = some u)
    (b1 : ss.length + m ≤ 100000) (hbase : base ≤ W.heap.size)
    (h : ∀ v' w', w'.ownsRow base 9 1 v' (ss ++ ts).length ((ss ++ ts).map strV) → W.grownBy w' v.ownBlock → wpList Tryz.prog ops Q rest (a.put o.dst v') w') : wpList Tryz.prog ops Q (o :: rest) a W := by
  obtain ⟨i0, hi, hzz⟩ := Option.map_eq_some_iff.1 infoS
  simp only [Prod.mk.injEq] at hzz
  obtain ⟨hz0, hz1, hz2⟩ := hzz
  refine wpList_append_own W hgd s x 50 ho base 9 i0 (.string ByteArray.empty) 1 16 Tryz.underlying50 hi hz0 hz1 hz2 rfl (by decide) v ss.length (ss.map strV) hs hown ⟨g, off, none⟩ m cx (ts.map strV) hx (by rw [List.length_map, hm, Nat.mul_one])
    (fun j u hj => by
      have hp : (⟨g, off, none⟩ : Addr).add j = ⟨g, off + j, none⟩ := by unfold Addr.add; split <;> simp_all
      rw [hp]; exact hsrc j u hj) (strs_oneS ts) (by unfold maxLen; omega) (by omega) hbase ?_
  intro v' w' q1 q2 _
  refine h v' w' ?_ q2
  rw [List.length_append, hm, List.map_append]
  exact q1
theorem own_oneS (w : World) (s : ByteArray) : (w.alloc (.cells #[.string s] 9)).ownsRow w.heap.size 9 1 (.slice (some ⟨w.heap.size, 0, none⟩) 1 1) 1 ([s].map strV) :=
  ⟨rfl, .inr ⟨w.heap.size, 1, #[.string s], rfl, Nat.le_refl _, World.alloc_heap_new w _, Nat.le_refl _, by simp [maxLen], rfl, rfl⟩⟩
theorem src_oneS (w : World) (s : ByteArray) : ∀ j u, ([s].map strV)[j]? = some u → (w.alloc (.cells #[.string s] 9)).cell? ⟨w.heap.size, 0 + j, none⟩ = some u := by
  intro j u hu
  have h0 : (w.alloc (.cells #[.string s] 9)).heap[w.heap.size]? = some (.cells #[.string s] 9) := World.alloc_heap_new w _
  rw [Nat.zero_add]
  simp only [World.cell?, h0]
  simpa [strV] using hu
theorem src_of {W : World} {g off : Nat} {xs : List Value} (h : SlIs W (some ⟨g, off, none⟩) xs) : ∀ j u, xs[j]? = some u → W.cell? ⟨g, off + j, none⟩ = some u := by
  intro j u hu
  rcases h with h | ⟨g', off', e, _, hc⟩
  · rw [h] at hu; simp at hu
  · injection e with e
    injection e with e1 e2
    subst e1 e2
    exact hc j u hu
/-- What lies below is as it was, behind such an append. -/
theorem below_appS {B : Nat} {w W W' : World} {v : Value} {ss : List ByteArray} (hb : Below B w W) (hn : B ≤ W.heap.size) (ho : W.ownsRow B 9 1 v ss.length (ss.map strV)) (hg : W.grownBy W' v.ownBlock) : Below B w W' :=
  hb.grown hg hn (fun j ej => (ho.lt j ej).1)
end Go.Proofs.YtabignplhkbcpaaGreatDoor
