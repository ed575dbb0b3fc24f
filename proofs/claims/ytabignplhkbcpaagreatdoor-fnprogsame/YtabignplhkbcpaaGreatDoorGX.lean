/-
  RegInv, DrawPr, DrawPr2, DrawPr3, MoreLines: these texts one behind the other, as a claim holds at most 60 files.
-/
import Derived.Test.YtabignplhkbcpaaGreatDoorProg
import Derived.Orders
import Derived.Deep.RegionHeld3
import Derived.Test.YtabignplhkbcpaaGreatDoorDrawSt
import Derived.Test.YtabignplhkbcpaaGreatDoorStList
import Derived.Deep.Slices
namespace Go.Proofs.YtabignplhkbcpaaGreatDoor

section
variable {P : Program} {md : Region.Mode} {ops : Array Oper} {Q : Exit → Act → World → Prop}

/-- This operation has come up. -/
def On (l : Array Bool) (j : Nat) : Prop := l.getD j false = true
theorem On.set {l : Array Bool} {i j : Nat} (h : On (l.setIfInBounds i true) j) (hne : j ≠ i) : On l j := by
  unfold On at *
  rwa [getD_set_ne false (Ne.symm hne)] at h
theorem On.more {l : Array Bool} {i j : Nat} (h : On l j) : On (l.setIfInBounds i true) j := getD_set_true h
theorem not_on {l : Array Bool} {i : Nat} (h : l.getD i true = false) : ¬ On l i := by
  unfold On
  rcases Nat.lt_or_ge i l.size with h' | h'
  · simp [h'] at h ⊢; exact h
  · simp [Array.getElem?_eq_none h'] at h

theorem count_set (l : List Bool) : ∀ i, l[i]? = some false → (l.set i true).count false + 1 = l.count false := by
  induction l with
  | nil => intro i h; simp at h
  | cons b l ih =>
    intro i h
    cases i with
    | zero => simp at h; subst h; simp
    | succ i =>
      have := ih i (by simpa using h)
      rw [List.set_cons_succ]
      cases b <;> simp <;> omega

/-- What one operation owes. -/
def StepInv (P : Program) (md : Region.Mode) (ops : Array Oper) (Q : Exit → Act → World → Prop) (I : Array Bool → Act → World → Prop) (i : Nat) (o : Oper) : Prop :=
  ∀ (l : Array Bool) (a : Act) (W : World), ¬ On l i → (∀ e ∈ o.after, Region.binds md e = true → On l e.on) → I l a W → ∀ K : Act → World → Prop, (∀ a' W', I (l.setIfInBounds i true) a' W' → K a' W') →
    if Region.wanted o (yielded ops a.tmps) = true then Oper.wp P o a W K Q else K (a.put o.dst undef) W
def StepsInv (P : Program) (md : Region.Mode) (ops : Array Oper) (Q : Exit → Act → World → Prop) (I : Array Bool → Act → World → Prop) : Nat → List Oper → Prop
  | _, [] => True
  | i, o :: os => StepInv P md ops Q I i o ∧ StepsInv P md ops Q I (i + 1) os
theorem StepsInv.at_ {I : Array Bool → Act → World → Prop} : ∀ {os : List Oper} {k : Nat}, StepsInv P md ops Q I k os → ∀ (i : Nat) (o : Oper), os[i]? = some o → StepInv P md ops Q I (k + i) o
  | [], _, _, _, _, h => by simp at h
  | o :: os, k, hs, 0, o', h => by simp at h; subst h; exact hs.1
  | o :: os, k, hs, i + 1, o', h => by
    have := StepsInv.at_ hs.2 i o' (by simpa using h)
    rwa [show k + 1 + i = k + (i + 1) by omega] at this

theorem wpAny_inv (I : Array Bool → Act → World → Prop) (hs : StepsInv P md ops Q I 0 ops.toList) (fin : ∀ l a W, l.size = ops.size → Region.ready md ops l = [] → I l a W → Q .normal a W) :
    ∀ (fuel : Nat) (l : Array Bool) (a : Act) (W : World), l.size = ops.size → l.toList.count false ≤ fuel → I l a W → wpAny P md ops Q fuel l a W := by
  intro fuel
  induction fuel with
  | zero =>
    intro l a W hz hc hI
    have hr : Region.ready md ops l = [] := by
      apply List.eq_nil_iff_forall_not_mem.2
      intro j hj
      have h0 := (mem_ready.1 hj).1
      have : false ∈ l.toList := by
        rcases Nat.lt_or_ge j l.size with h' | h'
        · simp [h'] at h0
          rw [← h0]
          exact Array.mem_toList_iff.2 (Array.getElem_mem h')
        · simp [Array.getElem?_eq_none h'] at h0
      have := List.count_pos_iff.2 this
      omega
    exact ⟨hr, fin l a W hz hr hI⟩
  | succ fuel ih =>
    intro l a W hz hc hI
    refine ⟨fun hr => fin l a W hz hr hI, fun i hi => ?_⟩
    obtain ⟨h0, o, ho, hall⟩ := mem_ready.1 hi
    have hst := StepsInv.at_ hs i o (by simpa using ho)
    rw [Nat.zero_add] at hst
    refine wpOp_step ho (fun K hK => hst l a W (not_on h0) (fun e he hb => hall e he hb) hI K (fun a' W' hI' => hK a' W' (ih _ a' W' (by simpa using hz) ?_ hI')))
    have hli : l.toList[i]? = some false := by
      rcases Nat.lt_or_ge i l.size with h' | h'
      · simp [h'] at h0 ⊢; exact h0
      · simp [Array.getElem?_eq_none h'] at h0
    have := count_set l.toList i hli
    rw [Array.toList_setIfInBounds]
    omega
/-- All have come up, if nothing may come up any more. -/
theorem all_on {l : Array Bool} (hz : l.size = ops.size) (hlow : ∀ (i : Nat) (o : Oper), ops[i]? = some o → ∀ e ∈ o.after, Region.binds md e = true → e.on < i) (hr : Region.ready md ops l = []) : ∀ i, i < ops.size → On l i := by
  intro i
  induction i using Nat.strongRecOn with
  | ind i ih =>
    intro hi
    cases h : l.getD i false with
    | true => exact h
    | false =>
      exfalso
      have hm : i ∈ Region.ready md ops l := by
        refine mem_ready.2 ⟨?_, ops[i], Array.getElem?_eq_getElem hi, fun e he hb => ?_⟩
        · have h' : i < l.size := by omega
          simp [h'] at h ⊢
          exact h
        · have h1 := hlow i _ (Array.getElem?_eq_getElem hi) e he hb
          exact ih e.on h1 (by omega)
      rw [hr] at hm
      cases hm
theorem wp_region_inv {id : Nat} {a : Act} {w : World} (hm : P.follows .mixedOrders = true) (I : Array Bool → Act → World → Prop) (h0 : I (Array.replicate ops.size false) a w.drew) (hs : StepsInv P .any ops Q I 0 ops.toList)
    (hlow : ∀ (i : Nat) (o : Oper), ops[i]? = some o → ∀ e ∈ o.after, Region.binds .any e = true → e.on < i) (fin : ∀ l a W, (∀ i, i < ops.size → On l i) → I l a W → Q .normal a W) : (Code.region id ops true).wp P Q a w :=
  wp_region_any hm (wpAny_inv I hs (fun l a W hz hr hI => fin l a W (all_on hz hlow hr) hI) ops.size (Array.replicate ops.size false) a w.drew (by simp) (by simp) h0)
end
end Go.Proofs.YtabignplhkbcpaaGreatDoor

namespace Go.Proofs.YtabignplhkbcpaaGreatDoor
open Go.RowKit

/-- A line with where its parts lie. -/
structure Ld where
  s : St
  A1 : Option Addr
  A2 : Option Addr
  c1 : Nat
  c2 : Nat
def ldC (d : Ld) : List Value := [.int .i64 d.s.kind, .string d.s.name, .string d.s.typ, .int .i64 d.s.e.kind, .int .i64 d.s.e.n, .string d.s.e.s, .slice d.A1 d.s.e.kids.length d.c1, .int .i64 d.s.t.kind, .int .i64 d.s.t.n, .string d.s.t.s, .slice d.A2 d.s.t.kids.length d.c2]
def rowL (ds : List Ld) : List Value := ds.flatMap ldC
theorem ldC_length (d : Ld) : (ldC d).length = 11 := rfl
theorem rowL_length (ds : List Ld) : (rowL ds).length = ds.length * 11 := by
  induction ds with
  | nil => rfl
  | cons x xs ih => simp [rowL, ldC] at ih ⊢; omega
theorem rowL_one (ds : List Ld) (d : Ld) : rowL (ds ++ [d]) = rowL ds ++ ldC d := by simp [rowL]
theorem rowL_get (ds : List Ld) : ∀ (k : Nat) (hk : k < ds.length) (i : Nat), i < 11 → (rowL ds)[k * 11 + i]? = (ldC ds[k])[i]? := by
  induction ds with
  | nil => intro k hk; simp at hk
  | cons x xs ih =>
    intro k hk i hi
    have e : rowL (x :: xs) = ldC x ++ rowL xs := by simp [rowL]
    rw [e]
    cases k with
    | zero =>
      rw [Nat.zero_mul, Nat.zero_add, List.getElem?_append_left (by rw [ldC_length]; exact hi)]
      rfl
    | succ k =>
      rw [List.getElem?_append_right (by rw [ldC_length]; omega), show (k + 1) * 11 + i - (ldC x).length = k * 11 + i by rw [ldC_length]; omega]
      exact ih k (by simpa using hk) i hi
theorem ldC_one (d : Ld) : ∀ u ∈ ldC d, u.oneCell' = true := by
  intro u hu
  simp only [ldC, List.mem_cons, List.not_mem_nil, or_false] at hu
  rcases hu with h | h | h | h | h | h | h | h | h | h | h <;> rw [h] <;> rfl
/-- Lines in a row of one's own, at block b, with parts of their own beside it. -/
structure LinesO (lo0 : Nat) (W : World) (b : Nat) (v : Value) (ds : List Ld) : Prop where
  own : W.ownsRow lo0 36 11 v ds.length (rowL ds)
  blk : v.ownBlock = some b
  parts : ∀ d ∈ ds, (d.s.e.kids.length ≤ d.c1 ∧ d.s.t.kids.length ≤ d.c2) ∧ OwnOut lo0 b W d.s.e d.A1 ∧ OwnOut lo0 b W d.s.t d.A2
theorem LinesO.lt {lo0 : Nat} {W : World} {b : Nat} {v : Value} {ds : List Ld} (h : LinesO lo0 W b v ds) : lo0 ≤ b ∧ b < W.heap.size := by
  have hb := h.blk
  rcases h.own.2 with ⟨rfl, _⟩ | ⟨g, cap, cur, rfl, h1, h2, _⟩
  · simp [Value.ownBlock] at hb
  · simp [Value.ownBlock] at hb
    subst hb
    exact ⟨h1, (Array.getElem?_eq_some_iff.1 h2).1⟩
theorem LinesO.keep {lo0 : Nat} {W W' : World} {b : Nat} {v : Value} {ds : List Ld} (h : LinesO lo0 W b v ds) (hs : W.heap.size ≤ W'.heap.size) (hk : ∀ k, lo0 ≤ k → k < W.heap.size → W'.heap[k]? = W.heap[k]?) : LinesO lo0 W' b v ds := by
  refine ⟨⟨h.own.1, ?_⟩, h.blk, fun d hd => ⟨(h.parts d hd).1, (h.parts d hd).2.1.keep hs (fun k q1 q2 _ => hk k q1 q2), (h.parts d hd).2.2.keep hs (fun k q1 q2 _ => hk k q1 q2)⟩⟩
  rcases h.own.2 with hn | ⟨g, cap, cur, e, h1, h2, h3⟩
  · exact .inl hn
  · exact .inr ⟨g, cap, cur, e, h1, (hk g h1 (Array.getElem?_eq_some_iff.1 h2).1).trans h2, h3⟩
theorem LinesO.below {lo0 : Nat} {W W' : World} {b : Nat} {v : Value} {ds : List Ld} (h : LinesO lo0 W b v ds) (hb : Below W.heap.size W W') : LinesO lo0 W' b v ds := h.keep hb.size (fun k _ q => hb.block k q)
theorem LinesO.grown {lo0 g : Nat} {W W' : World} {b : Nat} {v : Value} {ds : List Ld} (h : LinesO lo0 W b v ds) (hg : W.grownBy W' (some g)) (hgl : g < lo0) : LinesO lo0 W' b v ds := h.keep hg.size (fun k q1 q2 => hg.block k q2 (fun e => by injection e with e; omega))
theorem linesO_empty (w : World) : LinesO w.heap.size (w.alloc (.cells #[] 36)) w.heap.size (.slice (some ⟨w.heap.size, 0, none⟩) 0 0) [] :=
  ⟨⟨by simp [rowL], .inr ⟨w.heap.size, 0, #[], rfl, Nat.le_refl _, World.alloc_heap_new w _, Nat.le_refl _, by simp [maxLen], by simp, by simp [rowL]⟩⟩, rfl, fun d hd => by cases hd⟩
/-- What is told of a line that is put behind. -/
def NewLd (lo0 b : Nat) (W : World) (d : Ld) : Prop := (d.s.e.kids.length ≤ d.c1 ∧ d.s.t.kids.length ≤ d.c2) ∧ OwnOut lo0 b W d.s.e d.A1 ∧ OwnOut lo0 b W d.s.t d.A2
theorem OwnOut.move {lo0 b b' : Nat} {W W' : World} {e : Ex} {A : Option Addr} (h : OwnOut lo0 b W e A) (hg : W.grownBy W' (some b)) (hb : b' = b ∨ b' = W.heap.size) : OwnOut lo0 b' W' e A := by
  obtain ⟨lo, hi, h1, h2, h3, h4⟩ := h
  have hl := own_le _ _ _ _ _ h4
  exact ⟨lo, hi, h1, Nat.le_trans h2 hg.size, by rcases hb with e | e <;> subst e <;> omega, own_keep _ _ _ _ (fun k q1 q2 => hg.block k (by omega) (fun e => by injection e with e; omega)) h4⟩
theorem OwnIn.out {lo0 lo1 b : Nat} {W : World} {e : Ex} {A : Option Addr} (h : OwnIn lo1 W e A) (h0 : lo0 ≤ lo1) (hb : b < lo1) : OwnOut lo0 b W e A := by
  obtain ⟨lo, hi, h1, h2, h3⟩ := h
  exact ⟨lo, hi, by omega, h2, .inr (by omega), h3⟩
theorem LinesO.more {lo0 : Nat} {W W' : World} {b : Nat} {v v' : Value} {ds : List Ld} (h : LinesO lo0 W b v ds) (d : Ld) (hd : NewLd lo0 b W d) (r1 : W'.ownsRow lo0 36 11 v' (ds.length + 1) (rowL ds ++ ldC d)) (r2 : W.grownBy W' v.ownBlock) (r4 : v'.ownBlock = v.ownBlock ∨ v'.ownBlock = some W.heap.size) :
    ∃ b', (b' = b ∨ b' = W.heap.size) ∧ LinesO lo0 W' b' v' (ds ++ [d]) ∧ W.grownBy W' (some b) := by
  rw [h.blk] at r2 r4
  obtain ⟨b', hb', hv⟩ : ∃ b', (b' = b ∨ b' = W.heap.size) ∧ v'.ownBlock = some b' := by
    rcases r4 with e | e
    · exact ⟨b, .inl rfl, e⟩
    · exact ⟨_, .inr rfl, e⟩
  refine ⟨b', hb', ⟨by rw [rowL_one, List.length_append]; exact r1, hv, fun x hx => ?_⟩, r2⟩
  rcases List.mem_append.1 hx with hx | hx
  · exact ⟨(h.parts x hx).1, (h.parts x hx).2.1.move r2 hb', (h.parts x hx).2.2.move r2 hb'⟩
  · simp at hx
    subst hx
    exact ⟨hd.1, hd.2.1.move r2 hb', hd.2.2.move r2 hb'⟩
theorem info_lines : ∃ i, Tryz.prog.info? 36 = some i ∧ i.zero = some (.agg zeroSt) ∧ i.size = 11 ∧ i.bytes ≤ 200 := by
  obtain ⟨i, hi, hzz⟩ := Option.map_eq_some_iff.1 infoSt
  obtain ⟨i', hi', hb⟩ := Option.map_eq_some_iff.1 bytesSt
  rw [hi] at hi'
  injection hi' with hi'
  subst hi'
  simp only [Prod.mk.injEq] at hzz
  exact ⟨i, hi, hzz.1, hzz.2, by simpa using hb⟩
theorem bytes_fit {n k : Nat} (h : n ≤ 100000) (hk : k ≤ 200) : (n + 1) * k ≤ 140737488355328 := by
  have h2 : (n + 1) * k ≤ 100001 * 200 := Nat.mul_le_mul (by omega) hk
  omega
theorem wpList_appL {ops : Array Oper} {rest : List Oper} {o : Oper} {a : Act} {W : World} {Q : Exit → Act → World → Prop} (hgd : o.guard = none) (s x : Operand)
    (ho : o.op = .call { callee := .builtin .append, args := #[s, x], argTypes := #[23, 23] })
    (lo0 b : Nat) (v : Value) (ds : List Ld) (hs : a.eval s = v) (hL : LinesO lo0 W b v ds)
    (g c2 : Nat) (d : Ld) (hblk : W.heap[g]? = some (.cells (ldC d).toArray 36 (0, 0))) (hx : a.eval x = .slice (some ⟨g, 0, none⟩) 1 c2) (hd : NewLd lo0 b W d)
    (b1 : ds.length ≤ 100000) (hbase : lo0 ≤ W.heap.size)
    (h : ∀ v' w' b', (b' = b ∨ b' = W.heap.size) → LinesO lo0 w' b' v' (ds ++ [d]) → W.grownBy w' (some b) → wpList Tryz.prog ops Q rest (a.put o.dst v') w') : wpList Tryz.prog ops Q (o :: rest) a W := by
  obtain ⟨i0, hi, hz0, hz1, hz2⟩ := info_lines
  refine wpList_append_own_at W hgd s x 23 ho lo0 36 i0 (.agg zeroSt) 11 i0.bytes Tryz.underlying23 hi hz0 hz1 rfl rfl (by decide) v ds.length (rowL ds) hs hL.own ⟨g, 0, none⟩ 1 c2 (ldC d) hx rfl
    (fun j u hj => by
      have hp : (⟨g, 0, none⟩ : Addr).add j = ⟨g, 0 + j, none⟩ := by unfold Addr.add; split <;> simp_all
      have hcell : W.cell? ⟨g, j, none⟩ = (ldC d).toArray[j]? := by simp [World.cell?, hblk]
      rw [hp, Nat.zero_add, hcell, List.getElem?_toArray]; exact hj)
    (ldC_one d) (by unfold maxLen; omega) (bytes_fit b1 hz2) hbase ?_
  intro v' w' q1 q2 _ q4
  obtain ⟨b', hb', hL', hg'⟩ := hL.more d hd q1 q2 q4
  exact h v' w' b' hb' hL' hg'
/-- As the contracts ask for them. -/
theorem LinesO.lines {lo0 : Nat} {W : World} {b : Nat} {v : Value} {ds : List Ld} (h : LinesO lo0 W b v ds) : ∃ A c, v = .slice A ds.length c ∧ ds.length ≤ c ∧ LinesU W W.heap.size A (ds.map (·.s)) := by
  have hlt := h.lt
  obtain ⟨A, c, hv, hc⟩ : ∃ A c, v = .slice A ds.length c ∧ ds.length ≤ c := by
    rcases h.own.2 with ⟨rfl, e⟩ | ⟨g, cap, cur, rfl, _, _, h3, _⟩
    · exact ⟨none, 0, by rw [e], by omega⟩
    · exact ⟨_, cap, rfl, h3⟩
  subst hv
  refine ⟨A, c, rfl, hc, ?_⟩
  by_cases hn : ds.length = 0
  · left
    rw [List.eq_nil_of_length_eq_zero hn]; rfl
  · right
    have hb := h.blk
    obtain ⟨g, e⟩ : ∃ g, A = some ⟨g, 0, none⟩ := by
      rcases h.own.2 with ⟨e, _⟩ | ⟨g, cap, cur, e, _⟩
      · injection e with e1 e2 e3; subst e1; simp [Value.ownBlock] at hb
      · injection e with e1; exact ⟨g, e1⟩
    subst e
    have hgb : g = b := by simpa [Value.ownBlock] using hb
    subst hgb
    refine ⟨g, 0, rfl, hlt.2, fun j hj => ?_⟩
    have hj' : j < ds.length := by simpa using hj
    obtain ⟨⟨p1, p2⟩, p3, p4⟩ := h.parts ds[j] (List.getElem_mem hj')
    have hc' : ∀ i, i < 11 → W.cell? ⟨g, 0 + j * 11 + i, none⟩ = (ldC ds[j])[i]? := fun i hi => by
      rw [Nat.zero_add, h.own.cellAt (j * 11 + i) (by omega), rowL_get ds j hj' i hi]
    rw [List.getElem_map]
    refine ⟨ds[j].A1, ds[j].c1, ds[j].A2, ds[j].c2, ⟨⟨hc' 0 (by omega), hc' 1 (by omega), hc' 2 (by omega), hc' 3 (by omega), hc' 4 (by omega), hc' 5 (by omega), hc' 6 (by omega), hc' 7 (by omega), hc' 8 (by omega), hc' 9 (by omega), hc' 10 (by omega)⟩, p1, p2⟩, ?_, ?_⟩
    · obtain ⟨lo, hi, _, q2, _, q3⟩ := p3
      exact own_kidsU _ lo hi _ _ q3 q2
    · obtain ⟨lo, hi, _, q2, _, q3⟩ := p4
      exact own_kidsU _ lo hi _ _ q3 q2
/-- The same, as a step of a region that draws. -/
theorem step_appL {ops : Array Oper} {o : Oper} {a : Act} {Y : World} {K : Act → World → Prop} {Q : Exit → Act → World → Prop} {E : Prop}
    (hg : o.guard = none) (s x : Operand) (hop : o.op = Op.call { callee := Callee.builtin Builtin.append, args := #[s, x], argTypes := #[23, 23] })
    (lo0 b : Nat) (v : Value) (ds : List Ld) (hs : a.eval s = v) (hL : LinesO lo0 Y b v ds)
    (g c2 : Nat) (d : Ld) (hblk : Y.heap[g]? = some (.cells (ldC d).toArray 36 (0, 0))) (hx : a.eval x = .slice (some ⟨g, 0, none⟩) 1 c2) (hd : NewLd lo0 b Y d)
    (b1 : ds.length ≤ 100000) (hbase : lo0 ≤ Y.heap.size)
    (hK : ∀ v' Z b', (b' = b ∨ b' = Y.heap.size) → LinesO lo0 Z b' v' (ds ++ [d]) → Y.grownBy Z (some b) → K (a.put o.dst v') Z) :
    if Region.wanted o (yielded ops a.tmps) = true then Oper.wp Tryz.prog o a Y K Q else E := by
  obtain ⟨i0, hi, hz0, hz1, hz2⟩ := info_lines
  have hw : Region.wanted o (yielded ops a.tmps) = true := by simp [Region.wanted, hg]
  rw [if_pos hw]
  obtain ⟨v', w', hrun, r1, r2, _, r4⟩ := run_append_own_at (P := Tryz.prog) Y lo0 23 o.type 36 i0 (.agg zeroSt) 11 i0.bytes Tryz.underlying23 hi hz0 hz1 rfl rfl (by decide) v ds.length (rowL ds) hL.own ⟨g, 0, none⟩ 1 c2 (ldC d) rfl
    (fun j u hj => by
      have hp : (⟨g, 0, none⟩ : Addr).add j = ⟨g, 0 + j, none⟩ := by unfold Addr.add; split <;> simp_all
      have hcell : Y.cell? ⟨g, j, none⟩ = (ldC d).toArray[j]? := by simp [World.cell?, hblk]
      rw [hp, Nat.zero_add, hcell, List.getElem?_toArray]; exact hj)
    (ldC_one d) (by unfold maxLen; omega) (bytes_fit b1 hz2) hbase
  obtain ⟨b', hb', hL', hg'⟩ := hL.more d hd r1 r2 r4
  unfold Oper.wp
  simp [execOp, hop, resolve, invoke, builtin, hs, hx, hrun, Result.andThen]
  exact hK v' w' b' hb' hL' hg'
theorem Rd.apart {W W' : World} {B g b : Nat} {A : Option Addr} {len cap p : Nat} (h : Rd W B g A len cap p) (hg : W.grownBy W' (some b)) (hne : b ≠ g) (hB : B ≤ b) : Rd W' B g A len cap p :=
  ⟨(hg.block g h.lt (fun e => hne (by injection e with e; exact e.symm))).trans h.1, h.2.1, h.2.2.1.grown hg (by have := h.lt; have := h.2.1; omega) hB, h.2.2.2⟩
theorem grown_apart {w W W' : World} {g b : Nat} (h : w.grownBy W (some g)) (h2 : W.grownBy W' (some b)) (hb : w.heap.size ≤ b) : w.grownBy W' (some g) :=
  ⟨h2.os.trans h.os, h2.tape.trans h.tape, h2.output.trans h.output, Nat.le_trans h.size h2.size, fun i hi hne => (h2.block i (Nat.lt_of_lt_of_le hi h.size) (fun e => by injection e with e; omega)).trans (h.block i hi hne)⟩
theorem OwnOut.below {lo0 b : Nat} {W W' : World} {e : Ex} {A : Option Addr} (h : OwnOut lo0 b W e A) (hb : Below W.heap.size W W') : OwnOut lo0 b W' e A := h.keep hb.size (fun k _ q _ => hb.block k q)
theorem wp_namedL {ops : Array Oper} {o : Oper} {a : Act} {Y : World} {K : Act → World → Prop} {Q : Exit → Act → World → Prop} {E : Prop}
    (h : ∀ Z, Z = Y → if Region.wanted o (yielded ops a.tmps) = true then Oper.wp Tryz.prog o a Z K Q else E) : if Region.wanted o (yielded ops a.tmps) = true then Oper.wp Tryz.prog o a Y K Q else E := h Y rfl
end Go.Proofs.YtabignplhkbcpaaGreatDoor

namespace Go.Proofs.YtabignplhkbcpaaGreatDoor
open Go.RowKit

/-- Lines that were drawn, in memory of their own. -/
def DrewPr (k m : Nat) (w : World) (B g : Nat) (A0 : Option Addr) (len cap p : Nat) (r : Ending) (w' : World) : Prop :=
  ∃ (v : Value) (b : Nat) (ds : List Ld), r = .returned v ∧ LinesO w.heap.size w' b v ds ∧ ds.length ≤ m ∧ (∀ d ∈ ds, d.s.wt ≤ 5000) ∧ Read w B g A0 len cap p k w'

theorem rd_drewL {w : World} {B g : Nat} {A : Option Addr} {len cap p : Nat} (h : Rd w B g A len cap p) : Rd w.drew B g A len cap p := h
theorem Rd.of_below {w W : World} {B g : Nat} {A : Option Addr} {len cap p : Nat} (h : Rd w B g A len cap p) (hb : Below w.heap.size w W) : Rd W B g A len cap p :=
  ⟨(hb.block g h.lt).trans h.1, h.2.1, h.2.2.1.grown (g := g) ⟨hb.os, hb.tape, hb.output, hb.size, fun i hi _ => hb.block i hi⟩ (by have := h.lt; have := h.2.1; omega) h.2.1, h.2.2.2⟩
theorem grown_of_below {a w W : World} {g : Nat} (h : a.grownBy w (some g)) (hb : Below w.heap.size w W) : a.grownBy W (some g) :=
  ⟨hb.os.trans h.os, hb.tape.trans h.tape, hb.output.trans h.output, Nat.le_trans h.size hb.size, fun i hi hne => (hb.block i (Nat.lt_of_lt_of_le hi h.size)).trans (h.block i hi hne)⟩
theorem made_two (w : World) (a b : Obj) : ((w.alloc a).alloc b).heap[w.heap.size + 1]? = some b := by
  have := World.alloc_heap_new (w.alloc a) b
  rwa [World.size_alloc] at this
theorem two_below (w : World) (a b : Obj) : Below w.heap.size w ((w.alloc a).alloc b) := ((Below.refl _ w).alloc (Nat.le_refl _) _).alloc (by simp) _

theorem lt_of_some {w : World} {n : Nat} {o : Obj} (h : w.heap[n]? = some o) : n < w.heap.size := (Array.getElem?_eq_some_iff.1 h).1
def nmB (k : Nat) : ByteArray := if k = 0 then ⟨#[120]⟩ else if k = 1 then ⟨#[121]⟩ else ⟨#[122]⟩
/-- A drawn definition. -/
def letLd (k c : Nat) : Ld := ⟨⟨1, nmB k, ⟨#[105, 110, 116]⟩, .mk 1 (c : Int) ⟨#[]⟩ [], .mk 0 0 ⟨#[]⟩ []⟩, none, none, 0, 0⟩
theorem nmB_size (k : Nat) : (nmB k).size = 1 := by unfold nmB; repeat' (first | rfl | split)
theorem on_selfL {l : Array Bool} {i : Nat} (h : i < l.size) : On (l.setIfInBounds i true) i := by unfold On; simp [h]
theorem low_ofL {md : Region.Mode} {ops : Array Oper} (h : ((List.range ops.size).all fun i => match ops[i]? with | some o => o.after.all (fun e => !Region.binds md e || decide (e.on < i)) | none => true) = true) : ∀ (i : Nat) (o : Oper), ops[i]? = some o → ∀ e ∈ o.after, Region.binds md e = true → e.on < i := by
  intro i o ho e he hb
  have hi : i < ops.size := (Array.getElem?_eq_some_iff.1 ho).1
  have h1 := List.all_eq_true.1 h i (List.mem_range.2 hi)
  simp only [ho, Array.all_eq_true_iff_forall_mem, Bool.or_eq_true, Bool.not_eq_true', decide_eq_true_eq] at h1
  rcases h1 e he with h2 | h2
  · rw [hb] at h2; cases h2
  · exact h2
theorem not_on_repL (n i : Nat) : ¬ On (Array.replicate n false) i := by
  unfold On
  rcases Nat.lt_or_ge i n with h | h <;> simp [h]
theorem steps_consL {P : Program} {md : Region.Mode} {ops : Array Oper} {Q : Exit → Act → World → Prop} {I : Array Bool → Act → World → Prop} {i : Nat} {o : Oper} {os : List Oper} (h : StepInv P md ops Q I i o) (hs : StepsInv P md ops Q I (i + 1) os) : StepsInv P md ops Q I i (o :: os) := ⟨h, hs⟩
theorem steps_nilL {P : Program} {md : Region.Mode} {ops : Array Oper} {Q : Exit → Act → World → Prop} {I : Array Bool → Act → World → Prop} {i : Nat} : StepsInv P md ops Q I i [] := trivial
/-- What holds, whichever operations have come up. -/
structure PInv (w : World) (B g : Nat) (A0 : Option Addr) (len cap q k b : Nat) (v : Value) (ds : List Ld) (l : Array Bool) (W : World) (n15 n23 c9 : Nat) (x14 x15 x16 x17 x18 x19 x20 x21 x22 x23 x24 t3 : Value) : Prop where
  sz : l.size = 12
  f0 : On l 0 → v = x14
  f1 : On l 1 → x15 = .slice (some ⟨n15, 0, none⟩) 3 3
  f2 : On l 2 → x16 = .int .i64 (k : Int)
  f3 : On l 3 → x17 = .pointer (some ⟨n15, k, none⟩)
  f4 : On l 4 → x18 = .string (nmB k)
  f5 : On l 5 → x19 = .pointer (some ⟨g, 0, none⟩)
  f6 : On l 6 → x20 = .int .i64 (c9 : Int)
  f7 : On l 7 → x21 = .agg #[.int .i64 1, .int .i64 (c9 : Int), .string { data := #[] }, .slice none 0 0]
  f8 : On l 8 → x22 = .agg #[.int .i64 1, .string (nmB k), .string { data := #[105, 110, 116] }, .int .i64 1, .int .i64 (c9 : Int), .string { data := #[] }, .slice none 0 0, .int .i64 0, .int .i64 0, .string { data := #[] }, .slice none 0 0]
  f9 : On l 9 → x23 = .slice (some ⟨n23, 0, none⟩) 1 1
  f10 : On l 10 → ∃ b', LinesO w.heap.size W b' x24 (ds ++ [letLd k c9])
  f11 : On l 11 → x24 = t3
  k3 : On l 3 → On l 1
  k7 : On l 7 → On l 6
  k8 : On l 8 → On l 7 ∧ On l 4
  k9 : On l 9 → On l 8
  k10 : On l 10 → On l 9 ∧ On l 0
  k11 : On l 11 → On l 10
  m1 : On l 1 → ¬ On l 10 → W.heap[n15]? = some (.cells #[.string { data := #[120] }, .string { data := #[121] }, .string { data := #[122] }] 9 (0, 0)) ∧ w.heap.size ≤ n15
  m9 : On l 9 → ¬ On l 10 → W.heap[n23]? = some (.cells #[.int .i64 1, .string (nmB k), .string { data := #[105, 110, 116] }, .int .i64 1, .int .i64 (c9 : Int), .string { data := #[] }, .slice none 0 0, .int .i64 0, .int .i64 0, .string { data := #[] }, .slice none 0 0] 36 (0, 0)) ∧ w.heap.size ≤ n23
  e10 : ¬ On l 10 → LinesO w.heap.size W b v ds
  e11 : ¬ On l 11 → v = t3
  rd : ∃ q2, q ≤ q2 ∧ q2 ≤ q + 1 ∧ Rd W B g A0 len cap q2 ∧ (¬ On l 6 → q2 = q)
  gr : w.grownBy W (some g)
theorem cell_three {W : World} {n k : Nat} (h : W.heap[n]? = some (.cells #[.string { data := #[120] }, .string { data := #[121] }, .string { data := #[122] }] 9 (0, 0))) (hk : k < 3) : W.cell? ⟨n, k, none⟩ = some (.string (nmB k)) := by
  simp only [World.cell?, h]
  match k, hk with
  | 0, _ => rfl
  | 1, _ => rfl
  | 2, _ => rfl
set_option maxRecDepth 100000 in
set_option maxHeartbeats 4000000 in
theorem l6Prog_any (B g : Nat) (A0 : Option Addr) (len cap p : Nat) (w : World) (hr : Rd w B g A0 len cap p) (hp : p ≤ 2 ^ 16) :
    Calls Tryz.prog 29 #[.pointer (some ⟨g, 0, none⟩)] w (DrewPr 2000 9 w B g A0 len cap p) := by
  have hgl := hr.lt
  have hBg := hr.2.1
  obtain ⟨W0, hW0⟩ : ∃ W0, W0 = w.alloc (.cells #[] 36) := ⟨_, rfl⟩
  have HL0 := Lib.hid (show LinesO w.heap.size W0 w.heap.size (.slice (some ⟨w.heap.size, 0, none⟩) 0 0) [] by rw [hW0]; exact linesO_empty w)
  have HR0 := Lib.hid (show Rd W0 B g A0 len cap p by rw [hW0]; exact hr.alloc _)
  have HG0 := Lib.hid (show w.grownBy W0 (some g) by rw [hW0]; exact grown_alloc (grown_refl w _) _)
  have HPK0 := Lib.hid (pick_any B g A0 len cap p 4 W0 HR0.out (by omega) (by decide) (by decide))
  clear hr
  go_enter Tryz.func29, Tryz.ntmps29
  go_wp2_with fail
  rw [← hW0]
  clear hW0
  refine HPK0.out.mono ?_
  rintro r w1 ⟨c4, hc4, rfl, q1, hq1, hq2, hrd1, hgr1⟩
  have HL1 := Lib.hid (HL0.out.grown hgr1 hgl)
  have HG1 := Lib.hid (grown_trans HG0.out hgr1)
  have HR1 := Lib.hid hrd1
  clear HPK0 hrd1 hgr1 HL0 HR0 HG0
  cases c4 with
  | zero =>
    have z4 : decide (((0 : Nat) : Int) > 0) = false := by decide
    have HWT := Lib.hid (show ∀ d ∈ ([] : List Ld), d.s.wt ≤ 5000 from fun d hd => by cases hd)
    have HLL := HL1
    have HGR := HG1
    have HRD := HR1
    clear HL1 HG1 HR1
    obtain ⟨V, hV⟩ : ∃ V, V = w1 := ⟨_, rfl⟩
    rw [← hV] at HLL HGR HRD ⊢
    clear hV
    obtain ⟨qq, hqq⟩ : ∃ qq, qq = q1 := ⟨_, rfl⟩
    rw [← hqq] at HRD
    obtain ⟨ds, hds⟩ : ∃ ds : List Ld, ds = [] := ⟨_, rfl⟩
    rw [← hds] at HLL HWT
    have hdl : ds.length ≤ 3 := by rw [hds]; simp
    clear hds
    have hvg : g < V.heap.size := HRD.out.lt
    have HPK := Lib.hid (pick_any B g A0 len cap qq 6 V HRD.out (by omega) (by decide) (by decide))
    go_wp2_with fail
    refine HPK.out.mono ?_
    rintro r V2 ⟨c6, hc6, rfl, q6, hq1, hq2, hrd6, hgr6⟩
    have HL6 := Lib.hid (HLL.out.grown hgr6 hgl)
    have HW6 := Lib.hid (grown_trans HGR.out hgr6)
    have HRD6 := Lib.hid hrd6
    have e6 : IntKind.i64.wrap (1 + (c6 : Int)) = 1 + (c6 : Int) := IntWalk.i64_in _ (by omega)
    clear HPK hrd6 hgr6
    go_wp2_with fail
    go_loopw [3, 5] (fun s i wr => ∃ (m q b : Nat) (v : Value) (ds : List Ld), m ≤ 6 ∧ i = .int .i64 m ∧ v = s ∧ ds.length + m ≤ 9 ∧ p ≤ q ∧ q + 300 * m ≤ p + 1900 ∧ Hid (LinesO w.heap.size wr b v ds) ∧ Hid (∀ d ∈ ds, d.s.wt ≤ 5000) ∧ Hid (Rd wr B g A0 len cap q) ∧ Hid (w.grownBy wr (some g))) (fun _ i _ => (intOf i).toNat)
    case atStart => exact ⟨1 + c6, q6, _, _, _, by omega, by go_num, rfl, by omega, by omega, by omega, Lib.hid HL6.out, HWT, HRD6, HW6⟩
    case round =>
      obtain ⟨m, q, b', v', ds', hm6, rfl, rfl, hdm, hpq, hq, HL, HWW, HR, HG⟩ := hrel
      cases m with
      | zero =>
        have z0 : decide (((0 : Nat) : Int) > 0) = false := by decide
        go_wp2_with fail
        go_ret
        exact ⟨v', b', ds', rfl, HL.out, by omega, HWW.out, q, by omega, by omega, HR.out, HG.out⟩
      | succ m =>
        have z0 : decide ((m : Int) + 1 > 0) = true := decide_eq_true (by omega)
        have hz := HG.out.size
        have HS := Lib.hid (l5Some_any B g A0 len cap q wr HR.out (by omega))
        go_wp2_with fail
        refine HS.out.mono ?_
        rintro r w2 ⟨s, A1, A2, c1, c2, rfl, h1, h2, h3, h4, h5, q2, hq21, hq22, hrd2, hgr2⟩
        have hlt := HL.out.lt
        have HL2 := Lib.hid (HL.out.grown hgr2 hgl)
        have HG2 := Lib.hid (grown_trans HG.out hgr2)
        have hz2 := HG2.out.size
        obtain ⟨W3, hW3⟩ : ∃ W3, W3 = w2.alloc (.cells (ldC ⟨s, A1, A2, c1, c2⟩).toArray 36) := ⟨_, rfl⟩
        have hb3 : Below w2.heap.size w2 W3 := by rw [hW3]; exact (Below.refl _ w2).alloc (Nat.le_refl _) _
        have HL3 := Lib.hid (HL2.out.below hb3)
        have HN3 := Lib.hid (show NewLd w.heap.size b' W3 ⟨s, A1, A2, c1, c2⟩ from ⟨⟨h1, h2⟩, (h3.out (lo0 := w.heap.size) (b := b') hz hlt.2).below hb3, (h4.out (lo0 := w.heap.size) (b := b') hz hlt.2).below hb3⟩)
        have HB3 := Lib.hid (show W3.heap[w2.heap.size]? = some (.cells (ldC ⟨s, A1, A2, c1, c2⟩).toArray 36 (0, 0)) by rw [hW3]; exact World.alloc_heap_new w2 _)
        have HR3 := Lib.hid (show Rd W3 B g A0 len cap q2 by rw [hW3]; exact hrd2.alloc _)
        have HG3 := Lib.hid (show w.grownBy W3 (some g) by rw [hW3]; exact grown_alloc HG2.out _)
        have HWT2 := Lib.hid (show ∀ d ∈ ds' ++ [(⟨s, A1, A2, c1, c2⟩ : Ld)], d.s.wt ≤ 5000 from fun d hd => by
          rcases List.mem_append.1 hd with hd | hd
          · exact HWW.out d hd
          · simp at hd; subst hd; exact Nat.le_trans h5 (by omega))
        have hz3 := HG3.out.size
        unfold ldC at hW3
        unfold stV
        clear h1 h2 h3 h4 h5 hrd2 hgr2 HL HL2 HG HG2 HS hb3
        go_wp2_with (at_builtin; rw [← hW3]; refine wpList_appL rfl _ _ rfl w.heap.size b' v' ds' rfl HL3.out w2.heap.size 1 ⟨s, A1, A2, c1, c2⟩ HB3.out rfl HN3.out (by omega) hz3 ?_; intro v4 w4 b4 hb4 l4 g4; have HL4 := Lib.hid l4; have HR4 := Lib.hid (HR3.out.apart g4 (by omega) (by omega)); have HG4 := Lib.hid (grown_apart HG3.out g4 (by omega)); clear l4 g4 hb4)
        go_roundw
        case rel => exact ⟨m, q2, b4, v4, _, by omega, by go_num, rfl, by simp; omega, by omega, by omega, HL4, HWT2, HR4, HG4⟩
        case measure => simp [intOf]
  | succ c4 =>
    have z4 : decide ((c4 : Int) + 1 > 0) = true := decide_eq_true (by omega)
    go_wp2_with fail
    go_loopw [3, 4] (fun s i wr => ∃ (k q b : Nat) (v : Value) (ds : List Ld), k ≤ 3 ∧ i = .int .i64 k ∧ v = s ∧ ds.length = k ∧ p ≤ q ∧ q ≤ p + 1 + k ∧ Hid (LinesO w.heap.size wr b v ds) ∧ Hid (∀ d ∈ ds, d.s.wt ≤ 5000) ∧ Hid (Rd wr B g A0 len cap q) ∧ Hid (w.grownBy wr (some g))) (fun _ i _ => 3 - (intOf i).toNat)
    case atStart => exact ⟨0, q1, _, _, [], by omega, rfl, rfl, rfl, hq1, by omega, Lib.hid HL1.out, Lib.hid (fun d hd => by cases hd), HR1, HG1⟩
    case round =>
      obtain ⟨k, q, b, v, ds, hk3, rfl, rfl, hdk, hpq, hqk, HLL, HWT, HRD, HGR⟩ := hrel
      by_cases hk : k < 3
      · have hks : k = 0 ∨ k = 1 ∨ k = 2 := by omega
        have hz := HGR.out.size
        have hlt := HLL.out.lt
        have HPK := Lib.hid (fun W (h : Rd W B g A0 len cap q) => pick_any B g A0 len cap q 9 W h (by omega) (by decide) (by decide))
        have z0 : decide ((k : Int) < 3) = true := decide_eq_true (by omega)
        clear HL1 HG1 HR1
        have hk3 := hk
        go_wp2_with fail
        have z6 : (k : Int) < 3 := by omega
        refine wp_region_inv (by kernel_rfl) (fun l a W => ∃ (n15 n23 c9 : Nat) (x14 x15 x16 x17 x18 x19 x20 x21 x22 x23 x24 t3 : Value), a = { tmps := #[.pointer (some ⟨g, 0, none⟩), undef, .slice none 0 0, t3, .int .i64 (k : Int), undef, .slice (some ⟨w.heap.size, 0, none⟩) 0 0, .pointer (some ⟨g, 0, none⟩), .int .i64 ((c4 : Int) + 1), .bool true, .int .i64 (k : Int), .bool true, u12, u13, x14, x15, x16, x17, x18, x19, x20, x21, x22, x23, x24, undef, undef, undef, undef, undef, undef, undef, undef, undef, undef, undef, undef, undef], defers := [] } ∧ PInv w B g A0 len cap q k b v ds l W n15 n23 c9 x14 x15 x16 x17 x18 x19 x20 x21 x22 x23 x24 t3) ?start ?steps ?low ?fin
        case start => exact ⟨0, 0, 0, _, _, _, _, _, _, _, _, _, _, _, _, rfl, {
            sz := by simp
            f0 := fun h => absurd h (not_on_repL _ _)
            f1 := fun h => absurd h (not_on_repL _ _)
            f2 := fun h => absurd h (not_on_repL _ _)
            f3 := fun h => absurd h (not_on_repL _ _)
            f4 := fun h => absurd h (not_on_repL _ _)
            f5 := fun h => absurd h (not_on_repL _ _)
            f6 := fun h => absurd h (not_on_repL _ _)
            f7 := fun h => absurd h (not_on_repL _ _)
            f8 := fun h => absurd h (not_on_repL _ _)
            f9 := fun h => absurd h (not_on_repL _ _)
            f10 := fun h => absurd h (not_on_repL _ _)
            f11 := fun h => absurd h (not_on_repL _ _)
            k3 := fun h => absurd h (not_on_repL _ _)
            k7 := fun h => absurd h (not_on_repL _ _)
            k8 := fun h => absurd h (not_on_repL _ _)
            k9 := fun h => absurd h (not_on_repL _ _)
            k10 := fun h => absurd h (not_on_repL _ _)
            k11 := fun h => absurd h (not_on_repL _ _)
            m1 := fun h _ => absurd h (not_on_repL _ _)
            m9 := fun h _ => absurd h (not_on_repL _ _)
            e10 := fun _ => HLL.out.keep (Nat.le_refl _) (fun _ _ _ => rfl)
            e11 := fun _ => rfl
            rd := ⟨q, Nat.le_refl _, Nat.le_succ _, rd_drewL HRD.out, fun _ => rfl⟩
            gr := ⟨HGR.out.os, HGR.out.tape, HGR.out.output, HGR.out.size, HGR.out.block⟩
          }⟩
        case steps =>
          refine steps_consL ?s0 (steps_consL ?s1 (steps_consL ?s2 (steps_consL ?s3 (steps_consL ?s4 (steps_consL ?s5 (steps_consL ?s6 (steps_consL ?s7 (steps_consL ?s8 (steps_consL ?s9 (steps_consL ?s10 (steps_consL ?s11 (steps_nilL))))))))))))
          case s0 =>
            intro l a W hn hd hI K hK
            obtain ⟨n15, n23, c9, x14, x15, x16, x17, x18, x19, x20, x21, x22, x23, x24, t3, rfl, h⟩ := hI
            have HK := Lib.hid hK
            clear hK
            have n11 : ¬ On l 11 := fun z => hn (h.k10 (h.k11 z)).2
            obtain rfl := h.e11 n11
            go_simp
            exact HK.out _ _ ⟨n15, n23, c9, v, _, _, _, _, _, _, _, _, _, _, _, rfl, {
                sz := by simpa using h.sz
                f0 := fun _ => rfl
                f1 := fun y => h.f1 (y.set (by decide))
                f2 := fun y => h.f2 (y.set (by decide))
                f3 := fun y => h.f3 (y.set (by decide))
                f4 := fun y => h.f4 (y.set (by decide))
                f5 := fun y => h.f5 (y.set (by decide))
                f6 := fun y => h.f6 (y.set (by decide))
                f7 := fun y => h.f7 (y.set (by decide))
                f8 := fun y => h.f8 (y.set (by decide))
                f9 := fun y => h.f9 (y.set (by decide))
                f10 := fun y => h.f10 (y.set (by decide))
                f11 := fun y => h.f11 (y.set (by decide))
                k3 := fun y => (h.k3 (y.set (by decide))).more
                k7 := fun y => (h.k7 (y.set (by decide))).more
                k8 := fun y => ⟨(h.k8 (y.set (by decide))).1.more, (h.k8 (y.set (by decide))).2.more⟩
                k9 := fun y => (h.k9 (y.set (by decide))).more
                k10 := fun y => ⟨(h.k10 (y.set (by decide))).1.more, (h.k10 (y.set (by decide))).2.more⟩
                k11 := fun y => (h.k11 (y.set (by decide))).more
                m1 := fun y z => h.m1 (y.set (by decide)) (fun u => z u.more)
                m9 := fun y z => h.m9 (y.set (by decide)) (fun u => z u.more)
                e10 := fun y => h.e10 (fun u => y u.more)
                e11 := fun y => h.e11 (fun u => y u.more)
                rd := by obtain ⟨q2, a1, a2, a3, a4⟩ := h.rd; exact ⟨q2, a1, a2, a3, fun y => a4 (fun u => y u.more)⟩
                gr := h.gr
              }⟩
          case s1 =>
            intro l a W hn hd hI K hK
            obtain ⟨n15, n23, c9, x14, x15, x16, x17, x18, x19, x20, x21, x22, x23, x24, t3, rfl, h⟩ := hI
            have HK := Lib.hid hK
            clear hK
            go_simp
            exact HK.out _ _ ⟨W.heap.size, n23, c9, _, _, _, _, _, _, _, _, _, _, _, _, rfl, {
                sz := by simpa using h.sz
                f0 := fun y => h.f0 (y.set (by decide))
                f1 := fun _ => rfl
                f2 := fun y => h.f2 (y.set (by decide))
                f3 := fun y => absurd (h.k3 (y.set (by decide))) hn
                f4 := fun y => h.f4 (y.set (by decide))
                f5 := fun y => h.f5 (y.set (by decide))
                f6 := fun y => h.f6 (y.set (by decide))
                f7 := fun y => h.f7 (y.set (by decide))
                f8 := fun y => h.f8 (y.set (by decide))
                f9 := fun y => h.f9 (y.set (by decide))
                f10 := fun y => by obtain ⟨b', hb⟩ := h.f10 (y.set (by decide)); exact ⟨b', hb.below (show Below W.heap.size W (W.alloc (.cells #[.string { data := #[120] }, .string { data := #[121] }, .string { data := #[122] }] 9)) from (Below.refl _ W).alloc (Nat.le_refl _) _)⟩
                f11 := fun y => h.f11 (y.set (by decide))
                k3 := fun y => (h.k3 (y.set (by decide))).more
                k7 := fun y => (h.k7 (y.set (by decide))).more
                k8 := fun y => ⟨(h.k8 (y.set (by decide))).1.more, (h.k8 (y.set (by decide))).2.more⟩
                k9 := fun y => (h.k9 (y.set (by decide))).more
                k10 := fun y => ⟨(h.k10 (y.set (by decide))).1.more, (h.k10 (y.set (by decide))).2.more⟩
                k11 := fun y => (h.k11 (y.set (by decide))).more
                m1 := fun _ _ => ⟨World.alloc_heap_new W _, h.gr.size⟩
                m9 := fun y z => ⟨((show Below W.heap.size W (W.alloc (.cells #[.string { data := #[120] }, .string { data := #[121] }, .string { data := #[122] }] 9)) from (Below.refl _ W).alloc (Nat.le_refl _) _).block _ (lt_of_some (h.m9 (y.set (by decide)) (fun u => z u.more)).1)).trans (h.m9 (y.set (by decide)) (fun u => z u.more)).1, (h.m9 (y.set (by decide)) (fun u => z u.more)).2⟩
                e10 := fun y => (h.e10 (fun u => y u.more)).below (show Below W.heap.size W (W.alloc (.cells #[.string { data := #[120] }, .string { data := #[121] }, .string { data := #[122] }] 9)) from (Below.refl _ W).alloc (Nat.le_refl _) _)
                e11 := fun y => h.e11 (fun u => y u.more)
                rd := by obtain ⟨q2, a1, a2, a3, a4⟩ := h.rd; exact ⟨q2, a1, a2, a3.of_below (show Below W.heap.size W (W.alloc (.cells #[.string { data := #[120] }, .string { data := #[121] }, .string { data := #[122] }] 9)) from (Below.refl _ W).alloc (Nat.le_refl _) _), fun y => a4 (fun u => y u.more)⟩
                gr := grown_of_below h.gr (show Below W.heap.size W (W.alloc (.cells #[.string { data := #[120] }, .string { data := #[121] }, .string { data := #[122] }] 9)) from (Below.refl _ W).alloc (Nat.le_refl _) _)
              }⟩
          case s2 =>
            intro l a W hn hd hI K hK
            obtain ⟨n15, n23, c9, x14, x15, x16, x17, x18, x19, x20, x21, x22, x23, x24, t3, rfl, h⟩ := hI
            have HK := Lib.hid hK
            clear hK
            go_simp
            exact HK.out _ _ ⟨n15, n23, c9, _, _, _, _, _, _, _, _, _, _, _, _, rfl, {
                sz := by simpa using h.sz
                f0 := fun y => h.f0 (y.set (by decide))
                f1 := fun y => h.f1 (y.set (by decide))
                f2 := fun _ => rfl
                f3 := fun y => h.f3 (y.set (by decide))
                f4 := fun y => h.f4 (y.set (by decide))
                f5 := fun y => h.f5 (y.set (by decide))
                f6 := fun y => h.f6 (y.set (by decide))
                f7 := fun y => h.f7 (y.set (by decide))
                f8 := fun y => h.f8 (y.set (by decide))
                f9 := fun y => h.f9 (y.set (by decide))
                f10 := fun y => h.f10 (y.set (by decide))
                f11 := fun y => h.f11 (y.set (by decide))
                k3 := fun y => (h.k3 (y.set (by decide))).more
                k7 := fun y => (h.k7 (y.set (by decide))).more
                k8 := fun y => ⟨(h.k8 (y.set (by decide))).1.more, (h.k8 (y.set (by decide))).2.more⟩
                k9 := fun y => (h.k9 (y.set (by decide))).more
                k10 := fun y => ⟨(h.k10 (y.set (by decide))).1.more, (h.k10 (y.set (by decide))).2.more⟩
                k11 := fun y => (h.k11 (y.set (by decide))).more
                m1 := fun y z => h.m1 (y.set (by decide)) (fun u => z u.more)
                m9 := fun y z => h.m9 (y.set (by decide)) (fun u => z u.more)
                e10 := fun y => h.e10 (fun u => y u.more)
                e11 := fun y => h.e11 (fun u => y u.more)
                rd := by obtain ⟨q2, a1, a2, a3, a4⟩ := h.rd; exact ⟨q2, a1, a2, a3, fun y => a4 (fun u => y u.more)⟩
                gr := h.gr
              }⟩
          case s3 =>
            intro l a W hn hd hI K hK
            obtain ⟨n15, n23, c9, x14, x15, x16, x17, x18, x19, x20, x21, x22, x23, x24, t3, rfl, h⟩ := hI
            have HK := Lib.hid hK
            clear hK
            have d1 := hd { on := 1, ground := .data } (by simp) (by rfl)
            have d2 := hd { on := 2, ground := .data } (by simp) (by rfl)
            obtain rfl := h.f1 d1
            obtain rfl := h.f2 d2
            go_simp
            exact HK.out _ _ ⟨n15, n23, c9, _, _, _, _, _, _, _, _, _, _, _, _, rfl, {
                sz := by simpa using h.sz
                f0 := fun y => h.f0 (y.set (by decide))
                f1 := fun _ => rfl
                f2 := fun _ => rfl
                f3 := fun _ => rfl
                f4 := fun y => h.f4 (y.set (by decide))
                f5 := fun y => h.f5 (y.set (by decide))
                f6 := fun y => h.f6 (y.set (by decide))
                f7 := fun y => h.f7 (y.set (by decide))
                f8 := fun y => h.f8 (y.set (by decide))
                f9 := fun y => h.f9 (y.set (by decide))
                f10 := fun y => h.f10 (y.set (by decide))
                f11 := fun y => h.f11 (y.set (by decide))
                k3 := fun _ => d1.more
                k7 := fun y => (h.k7 (y.set (by decide))).more
                k8 := fun y => ⟨(h.k8 (y.set (by decide))).1.more, (h.k8 (y.set (by decide))).2.more⟩
                k9 := fun y => (h.k9 (y.set (by decide))).more
                k10 := fun y => ⟨(h.k10 (y.set (by decide))).1.more, (h.k10 (y.set (by decide))).2.more⟩
                k11 := fun y => (h.k11 (y.set (by decide))).more
                m1 := fun y z => h.m1 (y.set (by decide)) (fun u => z u.more)
                m9 := fun y z => h.m9 (y.set (by decide)) (fun u => z u.more)
                e10 := fun y => h.e10 (fun u => y u.more)
                e11 := fun y => h.e11 (fun u => y u.more)
                rd := by obtain ⟨q2, a1, a2, a3, a4⟩ := h.rd; exact ⟨q2, a1, a2, a3, fun y => a4 (fun u => y u.more)⟩
                gr := h.gr
              }⟩
          case s4 =>
            intro l a W hn hd hI K hK
            obtain ⟨n15, n23, c9, x14, x15, x16, x17, x18, x19, x20, x21, x22, x23, x24, t3, rfl, h⟩ := hI
            have HK := Lib.hid hK
            clear hK
            have d3 := hd { on := 3, ground := .data } (by simp) (by rfl)
            obtain rfl := h.f3 d3
            have d1 := h.k3 d3
            have n10 : ¬ On l 10 := fun z => hn (h.k8 (h.k9 (h.k10 z).1)).2
            have hc := cell_three (h.m1 d1 n10).1 hk3
            go_simp
            exact HK.out _ _ ⟨n15, n23, c9, _, _, _, _, _, _, _, _, _, _, _, _, rfl, {
                sz := by simpa using h.sz
                f0 := fun y => h.f0 (y.set (by decide))
                f1 := fun y => h.f1 (y.set (by decide))
                f2 := fun y => h.f2 (y.set (by decide))
                f3 := fun _ => rfl
                f4 := fun _ => rfl
                f5 := fun y => h.f5 (y.set (by decide))
                f6 := fun y => h.f6 (y.set (by decide))
                f7 := fun y => h.f7 (y.set (by decide))
                f8 := fun y => h.f8 (y.set (by decide))
                f9 := fun y => h.f9 (y.set (by decide))
                f10 := fun y => h.f10 (y.set (by decide))
                f11 := fun y => h.f11 (y.set (by decide))
                k3 := fun y => (h.k3 (y.set (by decide))).more
                k7 := fun y => (h.k7 (y.set (by decide))).more
                k8 := fun y => ⟨(h.k8 (y.set (by decide))).1.more, (h.k8 (y.set (by decide))).2.more⟩
                k9 := fun y => (h.k9 (y.set (by decide))).more
                k10 := fun y => ⟨(h.k10 (y.set (by decide))).1.more, (h.k10 (y.set (by decide))).2.more⟩
                k11 := fun y => (h.k11 (y.set (by decide))).more
                m1 := fun y z => h.m1 (y.set (by decide)) (fun u => z u.more)
                m9 := fun y z => h.m9 (y.set (by decide)) (fun u => z u.more)
                e10 := fun y => h.e10 (fun u => y u.more)
                e11 := fun y => h.e11 (fun u => y u.more)
                rd := by obtain ⟨q2, a1, a2, a3, a4⟩ := h.rd; exact ⟨q2, a1, a2, a3, fun y => a4 (fun u => y u.more)⟩
                gr := h.gr
              }⟩
          case s5 =>
            intro l a W hn hd hI K hK
            obtain ⟨n15, n23, c9, x14, x15, x16, x17, x18, x19, x20, x21, x22, x23, x24, t3, rfl, h⟩ := hI
            have HK := Lib.hid hK
            clear hK
            go_simp
            exact HK.out _ _ ⟨n15, n23, c9, _, _, _, _, _, _, _, _, _, _, _, _, rfl, {
                sz := by simpa using h.sz
                f0 := fun y => h.f0 (y.set (by decide))
                f1 := fun y => h.f1 (y.set (by decide))
                f2 := fun y => h.f2 (y.set (by decide))
                f3 := fun y => h.f3 (y.set (by decide))
                f4 := fun y => h.f4 (y.set (by decide))
                f5 := fun _ => rfl
                f6 := fun y => h.f6 (y.set (by decide))
                f7 := fun y => h.f7 (y.set (by decide))
                f8 := fun y => h.f8 (y.set (by decide))
                f9 := fun y => h.f9 (y.set (by decide))
                f10 := fun y => h.f10 (y.set (by decide))
                f11 := fun y => h.f11 (y.set (by decide))
                k3 := fun y => (h.k3 (y.set (by decide))).more
                k7 := fun y => (h.k7 (y.set (by decide))).more
                k8 := fun y => ⟨(h.k8 (y.set (by decide))).1.more, (h.k8 (y.set (by decide))).2.more⟩
                k9 := fun y => (h.k9 (y.set (by decide))).more
                k10 := fun y => ⟨(h.k10 (y.set (by decide))).1.more, (h.k10 (y.set (by decide))).2.more⟩
                k11 := fun y => (h.k11 (y.set (by decide))).more
                m1 := fun y z => h.m1 (y.set (by decide)) (fun u => z u.more)
                m9 := fun y z => h.m9 (y.set (by decide)) (fun u => z u.more)
                e10 := fun y => h.e10 (fun u => y u.more)
                e11 := fun y => h.e11 (fun u => y u.more)
                rd := by obtain ⟨q2, a1, a2, a3, a4⟩ := h.rd; exact ⟨q2, a1, a2, a3, fun y => a4 (fun u => y u.more)⟩
                gr := h.gr
              }⟩
          case s6 =>
            intro l a W hn hd hI K hK
            obtain ⟨n15, n23, c9, x14, x15, x16, x17, x18, x19, x20, x21, x22, x23, x24, t3, rfl, h⟩ := hI
            have HK := Lib.hid hK
            clear hK
            have d5 := hd { on := 5, ground := .data } (by simp) (by rfl)
            obtain rfl := h.f5 d5
            go_simp
            have n6 := hn
            obtain ⟨q2, a1, a2, a3, a4⟩ := h.rd
            obtain rfl := a4 hn
            go_at_call 30
            refine (HPK.out _ a3).mono ?_
            rintro r W' ⟨c9', hc9, rfl, q3, b1, b2, hrd3, hgr3⟩
            go_wp2_with fail
            exact HK.out _ _ ⟨n15, n23, c9', _, _, _, _, _, _, _, _, _, _, _, _, rfl, {
                sz := by simpa using h.sz
                f0 := fun y => h.f0 (y.set (by decide))
                f1 := fun y => h.f1 (y.set (by decide))
                f2 := fun y => h.f2 (y.set (by decide))
                f3 := fun y => h.f3 (y.set (by decide))
                f4 := fun y => h.f4 (y.set (by decide))
                f5 := fun _ => rfl
                f6 := fun _ => rfl
                f7 := fun y => absurd (h.k7 (y.set (by decide))) hn
                f8 := fun y => absurd (h.k7 (h.k8 (y.set (by decide))).1) hn
                f9 := fun y => h.f9 (y.set (by decide))
                f10 := fun y => absurd (h.k7 (h.k8 (h.k9 (h.k10 (y.set (by decide))).1)).1) hn
                f11 := fun y => h.f11 (y.set (by decide))
                k3 := fun y => (h.k3 (y.set (by decide))).more
                k7 := fun y => (h.k7 (y.set (by decide))).more
                k8 := fun y => ⟨(h.k8 (y.set (by decide))).1.more, (h.k8 (y.set (by decide))).2.more⟩
                k9 := fun y => (h.k9 (y.set (by decide))).more
                k10 := fun y => ⟨(h.k10 (y.set (by decide))).1.more, (h.k10 (y.set (by decide))).2.more⟩
                k11 := fun y => (h.k11 (y.set (by decide))).more
                m1 := fun y z => ⟨(hgr3.block _ (lt_of_some (h.m1 (y.set (by decide)) (fun u => z u.more)).1) (fun e => by injection e with e; have := (h.m1 (y.set (by decide)) (fun u => z u.more)).2; omega)).trans (h.m1 (y.set (by decide)) (fun u => z u.more)).1, (h.m1 (y.set (by decide)) (fun u => z u.more)).2⟩
                m9 := fun y _ => absurd (h.k7 (h.k8 (h.k9 (y.set (by decide)))).1) hn
                e10 := fun y => (h.e10 (fun u => y u.more)).grown hgr3 hgl
                e11 := fun y => h.e11 (fun u => y u.more)
                rd := ⟨q3, b1, b2, hrd3, fun y => absurd (on_selfL (by have := h.sz; omega)) y⟩
                gr := grown_trans h.gr hgr3
              }⟩
          case s7 =>
            intro l a W hn hd hI K hK
            obtain ⟨n15, n23, c9, x14, x15, x16, x17, x18, x19, x20, x21, x22, x23, x24, t3, rfl, h⟩ := hI
            have HK := Lib.hid hK
            clear hK
            have d6 := hd { on := 6, ground := .data } (by simp) (by rfl)
            obtain rfl := h.f6 d6
            go_simp
            exact HK.out _ _ ⟨n15, n23, c9, _, _, _, _, _, _, _, _, _, _, _, _, rfl, {
                sz := by simpa using h.sz
                f0 := fun y => h.f0 (y.set (by decide))
                f1 := fun y => h.f1 (y.set (by decide))
                f2 := fun y => h.f2 (y.set (by decide))
                f3 := fun y => h.f3 (y.set (by decide))
                f4 := fun y => h.f4 (y.set (by decide))
                f5 := fun y => h.f5 (y.set (by decide))
                f6 := fun _ => rfl
                f7 := fun _ => rfl
                f8 := fun y => h.f8 (y.set (by decide))
                f9 := fun y => h.f9 (y.set (by decide))
                f10 := fun y => h.f10 (y.set (by decide))
                f11 := fun y => h.f11 (y.set (by decide))
                k3 := fun y => (h.k3 (y.set (by decide))).more
                k7 := fun _ => d6.more
                k8 := fun y => ⟨(h.k8 (y.set (by decide))).1.more, (h.k8 (y.set (by decide))).2.more⟩
                k9 := fun y => (h.k9 (y.set (by decide))).more
                k10 := fun y => ⟨(h.k10 (y.set (by decide))).1.more, (h.k10 (y.set (by decide))).2.more⟩
                k11 := fun y => (h.k11 (y.set (by decide))).more
                m1 := fun y z => h.m1 (y.set (by decide)) (fun u => z u.more)
                m9 := fun y z => h.m9 (y.set (by decide)) (fun u => z u.more)
                e10 := fun y => h.e10 (fun u => y u.more)
                e11 := fun y => h.e11 (fun u => y u.more)
                rd := by obtain ⟨q2, a1, a2, a3, a4⟩ := h.rd; exact ⟨q2, a1, a2, a3, fun y => a4 (fun u => y u.more)⟩
                gr := h.gr
              }⟩
          case s8 =>
            intro l a W hn hd hI K hK
            obtain ⟨n15, n23, c9, x14, x15, x16, x17, x18, x19, x20, x21, x22, x23, x24, t3, rfl, h⟩ := hI
            have HK := Lib.hid hK
            clear hK
            have d4 := hd { on := 4, ground := .data } (by simp) (by rfl)
            have d7 := hd { on := 7, ground := .data } (by simp) (by rfl)
            obtain rfl := h.f4 d4
            obtain rfl := h.f7 d7
            go_simp
            exact HK.out _ _ ⟨n15, n23, c9, _, _, _, _, _, _, _, _, _, _, _, _, rfl, {
                sz := by simpa using h.sz
                f0 := fun y => h.f0 (y.set (by decide))
                f1 := fun y => h.f1 (y.set (by decide))
                f2 := fun y => h.f2 (y.set (by decide))
                f3 := fun y => h.f3 (y.set (by decide))
                f4 := fun _ => rfl
                f5 := fun y => h.f5 (y.set (by decide))
                f6 := fun y => h.f6 (y.set (by decide))
                f7 := fun _ => rfl
                f8 := fun _ => rfl
                f9 := fun y => h.f9 (y.set (by decide))
                f10 := fun y => h.f10 (y.set (by decide))
                f11 := fun y => h.f11 (y.set (by decide))
                k3 := fun y => (h.k3 (y.set (by decide))).more
                k7 := fun y => (h.k7 (y.set (by decide))).more
                k8 := fun _ => ⟨d7.more, d4.more⟩
                k9 := fun y => (h.k9 (y.set (by decide))).more
                k10 := fun y => ⟨(h.k10 (y.set (by decide))).1.more, (h.k10 (y.set (by decide))).2.more⟩
                k11 := fun y => (h.k11 (y.set (by decide))).more
                m1 := fun y z => h.m1 (y.set (by decide)) (fun u => z u.more)
                m9 := fun y z => h.m9 (y.set (by decide)) (fun u => z u.more)
                e10 := fun y => h.e10 (fun u => y u.more)
                e11 := fun y => h.e11 (fun u => y u.more)
                rd := by obtain ⟨q2, a1, a2, a3, a4⟩ := h.rd; exact ⟨q2, a1, a2, a3, fun y => a4 (fun u => y u.more)⟩
                gr := h.gr
              }⟩
          case s9 =>
            intro l a W hn hd hI K hK
            obtain ⟨n15, n23, c9, x14, x15, x16, x17, x18, x19, x20, x21, x22, x23, x24, t3, rfl, h⟩ := hI
            have HK := Lib.hid hK
            clear hK
            have d8 := hd { on := 8, ground := .data } (by simp) (by rfl)
            obtain rfl := h.f8 d8
            go_simp
            exact HK.out _ _ ⟨n15, W.heap.size, c9, _, _, _, _, _, _, _, _, _, _, _, _, rfl, {
                sz := by simpa using h.sz
                f0 := fun y => h.f0 (y.set (by decide))
                f1 := fun y => h.f1 (y.set (by decide))
                f2 := fun y => h.f2 (y.set (by decide))
                f3 := fun y => h.f3 (y.set (by decide))
                f4 := fun y => h.f4 (y.set (by decide))
                f5 := fun y => h.f5 (y.set (by decide))
                f6 := fun y => h.f6 (y.set (by decide))
                f7 := fun y => h.f7 (y.set (by decide))
                f8 := fun _ => rfl
                f9 := fun _ => rfl
                f10 := fun y => by obtain ⟨b', hb⟩ := h.f10 (y.set (by decide)); exact ⟨b', hb.below (show Below W.heap.size W (W.alloc (.cells #[.int .i64 1, .string (nmB k), .string { data := #[105, 110, 116] }, .int .i64 1, .int .i64 (c9 : Int), .string { data := #[] }, .slice none 0 0, .int .i64 0, .int .i64 0, .string { data := #[] }, .slice none 0 0] 36)) from (Below.refl _ W).alloc (Nat.le_refl _) _)⟩
                f11 := fun y => h.f11 (y.set (by decide))
                k3 := fun y => (h.k3 (y.set (by decide))).more
                k7 := fun y => (h.k7 (y.set (by decide))).more
                k8 := fun y => ⟨(h.k8 (y.set (by decide))).1.more, (h.k8 (y.set (by decide))).2.more⟩
                k9 := fun _ => d8.more
                k10 := fun y => ⟨(h.k10 (y.set (by decide))).1.more, (h.k10 (y.set (by decide))).2.more⟩
                k11 := fun y => (h.k11 (y.set (by decide))).more
                m1 := fun y z => ⟨((show Below W.heap.size W (W.alloc (.cells #[.int .i64 1, .string (nmB k), .string { data := #[105, 110, 116] }, .int .i64 1, .int .i64 (c9 : Int), .string { data := #[] }, .slice none 0 0, .int .i64 0, .int .i64 0, .string { data := #[] }, .slice none 0 0] 36)) from (Below.refl _ W).alloc (Nat.le_refl _) _).block _ (lt_of_some (h.m1 (y.set (by decide)) (fun u => z u.more)).1)).trans (h.m1 (y.set (by decide)) (fun u => z u.more)).1, (h.m1 (y.set (by decide)) (fun u => z u.more)).2⟩
                m9 := fun _ _ => ⟨World.alloc_heap_new W _, h.gr.size⟩
                e10 := fun y => (h.e10 (fun u => y u.more)).below (show Below W.heap.size W (W.alloc (.cells #[.int .i64 1, .string (nmB k), .string { data := #[105, 110, 116] }, .int .i64 1, .int .i64 (c9 : Int), .string { data := #[] }, .slice none 0 0, .int .i64 0, .int .i64 0, .string { data := #[] }, .slice none 0 0] 36)) from (Below.refl _ W).alloc (Nat.le_refl _) _)
                e11 := fun y => h.e11 (fun u => y u.more)
                rd := by obtain ⟨q2, a1, a2, a3, a4⟩ := h.rd; exact ⟨q2, a1, a2, a3.of_below (show Below W.heap.size W (W.alloc (.cells #[.int .i64 1, .string (nmB k), .string { data := #[105, 110, 116] }, .int .i64 1, .int .i64 (c9 : Int), .string { data := #[] }, .slice none 0 0, .int .i64 0, .int .i64 0, .string { data := #[] }, .slice none 0 0] 36)) from (Below.refl _ W).alloc (Nat.le_refl _) _), fun y => a4 (fun u => y u.more)⟩
                gr := grown_of_below h.gr (show Below W.heap.size W (W.alloc (.cells #[.int .i64 1, .string (nmB k), .string { data := #[105, 110, 116] }, .int .i64 1, .int .i64 (c9 : Int), .string { data := #[] }, .slice none 0 0, .int .i64 0, .int .i64 0, .string { data := #[] }, .slice none 0 0] 36)) from (Below.refl _ W).alloc (Nat.le_refl _) _)
              }⟩
          case s10 =>
            intro l a W hn hd hI K hK
            obtain ⟨n15, n23, c9, x14, x15, x16, x17, x18, x19, x20, x21, x22, x23, x24, t3, rfl, h⟩ := hI
            have HK := Lib.hid hK
            clear hK
            have d0 := hd { on := 0, ground := .data } (by simp) (by rfl)
            have d9 := hd { on := 9, ground := .data } (by simp) (by rfl)
            obtain rfl := h.f0 d0
            obtain rfl := h.f9 d9
            have hL := h.e10 hn
            obtain ⟨hm9, hn23⟩ := h.m9 d9 hn
            obtain ⟨q2, a1, a2, a3, a4⟩ := h.rd
            refine step_appL rfl (.tmp 14) (.tmp 23) rfl w.heap.size b v ds rfl hL n23 1 (letLd k c9) hm9 rfl ⟨⟨Nat.le_refl _, Nat.le_refl _⟩, own_empty W 1 _ _ w.heap.size b hlt.1 (by have := hL.lt; omega) none, own_empty W 0 0 ⟨#[]⟩ w.heap.size b hlt.1 (by have := hL.lt; omega) none⟩ (by omega) h.gr.size ?_
            intro v' Z b2 hb2 l2 g3
            exact HK.out _ _ ⟨n15, n23, c9, _, _, _, _, _, _, _, _, _, _, _, _, rfl, {
                sz := by simpa using h.sz
                f0 := fun _ => rfl
                f1 := fun y => h.f1 (y.set (by decide))
                f2 := fun y => h.f2 (y.set (by decide))
                f3 := fun y => h.f3 (y.set (by decide))
                f4 := fun y => h.f4 (y.set (by decide))
                f5 := fun y => h.f5 (y.set (by decide))
                f6 := fun y => h.f6 (y.set (by decide))
                f7 := fun y => h.f7 (y.set (by decide))
                f8 := fun y => h.f8 (y.set (by decide))
                f9 := fun _ => rfl
                f10 := fun _ => ⟨b2, l2⟩
                f11 := fun y => absurd (h.k11 (y.set (by decide))) hn
                k3 := fun y => (h.k3 (y.set (by decide))).more
                k7 := fun y => (h.k7 (y.set (by decide))).more
                k8 := fun y => ⟨(h.k8 (y.set (by decide))).1.more, (h.k8 (y.set (by decide))).2.more⟩
                k9 := fun y => (h.k9 (y.set (by decide))).more
                k10 := fun _ => ⟨d9.more, d0.more⟩
                k11 := fun y => (h.k11 (y.set (by decide))).more
                m1 := fun _ z => absurd (on_selfL (by have := h.sz; omega)) z
                m9 := fun _ z => absurd (on_selfL (by have := h.sz; omega)) z
                e10 := fun z => absurd (on_selfL (by have := h.sz; omega)) z
                e11 := fun y => h.e11 (fun u => y u.more)
                rd := ⟨q2, a1, a2, a3.apart g3 (by omega) (by omega), fun y => a4 (fun u => y u.more)⟩
                gr := grown_apart h.gr g3 hlt.1
              }⟩
          case s11 =>
            intro l a W hn hd hI K hK
            obtain ⟨n15, n23, c9, x14, x15, x16, x17, x18, x19, x20, x21, x22, x23, x24, t3, rfl, h⟩ := hI
            have HK := Lib.hid hK
            clear hK
            have d10 := hd { on := 10, ground := .data } (by simp) (by rfl)
            go_simp
            exact HK.out _ _ ⟨n15, n23, c9, _, _, _, _, _, _, _, _, _, _, _, x24, rfl, {
                sz := by simpa using h.sz
                f0 := fun y => h.f0 (y.set (by decide))
                f1 := fun y => h.f1 (y.set (by decide))
                f2 := fun y => h.f2 (y.set (by decide))
                f3 := fun y => h.f3 (y.set (by decide))
                f4 := fun y => h.f4 (y.set (by decide))
                f5 := fun y => h.f5 (y.set (by decide))
                f6 := fun y => h.f6 (y.set (by decide))
                f7 := fun y => h.f7 (y.set (by decide))
                f8 := fun y => h.f8 (y.set (by decide))
                f9 := fun y => h.f9 (y.set (by decide))
                f10 := fun y => h.f10 (y.set (by decide))
                f11 := fun _ => rfl
                k3 := fun y => (h.k3 (y.set (by decide))).more
                k7 := fun y => (h.k7 (y.set (by decide))).more
                k8 := fun y => ⟨(h.k8 (y.set (by decide))).1.more, (h.k8 (y.set (by decide))).2.more⟩
                k9 := fun y => (h.k9 (y.set (by decide))).more
                k10 := fun y => ⟨(h.k10 (y.set (by decide))).1.more, (h.k10 (y.set (by decide))).2.more⟩
                k11 := fun _ => d10.more
                m1 := fun y z => h.m1 (y.set (by decide)) (fun u => z u.more)
                m9 := fun y z => h.m9 (y.set (by decide)) (fun u => z u.more)
                e10 := fun y => h.e10 (fun u => y u.more)
                e11 := fun z => absurd (on_selfL (by have := h.sz; omega)) z
                rd := by obtain ⟨q2, a1, a2, a3, a4⟩ := h.rd; exact ⟨q2, a1, a2, a3, fun y => a4 (fun u => y u.more)⟩
                gr := h.gr
              }⟩
        case low => exact low_ofL (by kernel_rfl)
        case fin =>
          intro l a W hall hI
          obtain ⟨n15, n23, c9, x14, x15, x16, x17, x18, x19, x20, x21, x22, x23, x24, t3, rfl, h⟩ := hI
          have on : ∀ i, i < 12 → On l i := hall
          obtain ⟨b2, hL2⟩ := h.f10 (on 10 (by decide))
          obtain rfl := h.f11 (on 11 (by decide))
          obtain ⟨q2, a1, a2, a3, _⟩ := h.rd
          have HL2 := Lib.hid hL2
          have HR2 := Lib.hid a3
          have HG2 := Lib.hid h.gr
          have HW2 := Lib.hid (show ∀ d ∈ ds ++ [letLd k c9], d.s.wt ≤ 5000 from fun d hd => by
            rcases List.mem_append.1 hd with hd | hd
            · exact HWT.out d hd
            · simp at hd; subst hd
              have := nmB_size k
              show (nmB k).size + 3 + _ + _ ≤ 5000
              have hz0 : (⟨#[]⟩ : ByteArray).size = 0 := rfl
              simp [letLd, Ex.wt, Ex.wts, hz0]; omega)
          clear h hall on hL2 a3
          go_wp2_with fail
          go_roundw
          case rel => exact ⟨k + 1, q2, b2, _, _, by omega, by go_num, rfl, by simp; omega, by omega, by omega, HL2, HW2, HR2, HG2⟩
          case measure => simp [intOf]; omega
      · obtain rfl : k = 3 := by omega
        have z5 : decide (((3 : Nat) : Int) < 3) = false := by decide
        obtain ⟨V, hV⟩ : ∃ V, V = wr := ⟨_, rfl⟩
        rw [← hV] at HLL HGR HRD ⊢
        clear hV
        obtain ⟨qq, hqq⟩ : ∃ qq, qq = q := ⟨_, rfl⟩
        rw [← hqq] at HRD
        have hdl : ds.length ≤ 3 := by omega
        clear hdk
        have hvg : g < V.heap.size := HRD.out.lt
        have HPK := Lib.hid (pick_any B g A0 len cap qq 6 V HRD.out (by omega) (by decide) (by decide))
        go_wp2_with fail
        refine HPK.out.mono ?_
        rintro r V2 ⟨c6, hc6, rfl, q6, hq1, hq2, hrd6, hgr6⟩
        have HL6 := Lib.hid (HLL.out.grown hgr6 hgl)
        have HW6 := Lib.hid (grown_trans HGR.out hgr6)
        have HRD6 := Lib.hid hrd6
        have e6 : IntKind.i64.wrap (1 + (c6 : Int)) = 1 + (c6 : Int) := IntWalk.i64_in _ (by omega)
        clear HPK hrd6 hgr6
        go_wp2_with fail
        go_loopw [3, 5] (fun s i wr => ∃ (m q b : Nat) (v : Value) (ds : List Ld), m ≤ 6 ∧ i = .int .i64 m ∧ v = s ∧ ds.length + m ≤ 9 ∧ p ≤ q ∧ q + 300 * m ≤ p + 1900 ∧ Hid (LinesO w.heap.size wr b v ds) ∧ Hid (∀ d ∈ ds, d.s.wt ≤ 5000) ∧ Hid (Rd wr B g A0 len cap q) ∧ Hid (w.grownBy wr (some g))) (fun _ i _ => (intOf i).toNat)
        case atStart => exact ⟨1 + c6, q6, _, _, _, by omega, by go_num, rfl, by omega, by omega, by omega, Lib.hid HL6.out, HWT, HRD6, HW6⟩
        case round =>
          obtain ⟨m, q, b', v', ds', hm6, rfl, rfl, hdm, hpq, hq, HL, HWW, HR, HG⟩ := hrel
          cases m with
          | zero =>
            have z0 : decide (((0 : Nat) : Int) > 0) = false := by decide
            go_wp2_with fail
            go_ret
            exact ⟨v', b', ds', rfl, HL.out, by omega, HWW.out, q, by omega, by omega, HR.out, HG.out⟩
          | succ m =>
            have z0 : decide ((m : Int) + 1 > 0) = true := decide_eq_true (by omega)
            have hz := HG.out.size
            have HS := Lib.hid (l5Some_any B g A0 len cap q wr HR.out (by omega))
            go_wp2_with fail
            refine HS.out.mono ?_
            rintro r w2 ⟨s, A1, A2, c1, c2, rfl, h1, h2, h3, h4, h5, q2, hq21, hq22, hrd2, hgr2⟩
            have hlt := HL.out.lt
            have HL2 := Lib.hid (HL.out.grown hgr2 hgl)
            have HG2 := Lib.hid (grown_trans HG.out hgr2)
            have hz2 := HG2.out.size
            obtain ⟨W3, hW3⟩ : ∃ W3, W3 = w2.alloc (.cells (ldC ⟨s, A1, A2, c1, c2⟩).toArray 36) := ⟨_, rfl⟩
            have hb3 : Below w2.heap.size w2 W3 := by rw [hW3]; exact (Below.refl _ w2).alloc (Nat.le_refl _) _
            have HL3 := Lib.hid (HL2.out.below hb3)
            have HN3 := Lib.hid (show NewLd w.heap.size b' W3 ⟨s, A1, A2, c1, c2⟩ from ⟨⟨h1, h2⟩, (h3.out (lo0 := w.heap.size) (b := b') hz hlt.2).below hb3, (h4.out (lo0 := w.heap.size) (b := b') hz hlt.2).below hb3⟩)
            have HB3 := Lib.hid (show W3.heap[w2.heap.size]? = some (.cells (ldC ⟨s, A1, A2, c1, c2⟩).toArray 36 (0, 0)) by rw [hW3]; exact World.alloc_heap_new w2 _)
            have HR3 := Lib.hid (show Rd W3 B g A0 len cap q2 by rw [hW3]; exact hrd2.alloc _)
            have HG3 := Lib.hid (show w.grownBy W3 (some g) by rw [hW3]; exact grown_alloc HG2.out _)
            have HWT2 := Lib.hid (show ∀ d ∈ ds' ++ [(⟨s, A1, A2, c1, c2⟩ : Ld)], d.s.wt ≤ 5000 from fun d hd => by
              rcases List.mem_append.1 hd with hd | hd
              · exact HWW.out d hd
              · simp at hd; subst hd; exact Nat.le_trans h5 (by omega))
            have hz3 := HG3.out.size
            unfold ldC at hW3
            unfold stV
            clear h1 h2 h3 h4 h5 hrd2 hgr2 HL HL2 HG HG2 HS hb3
            go_wp2_with (at_builtin; rw [← hW3]; refine wpList_appL rfl _ _ rfl w.heap.size b' v' ds' rfl HL3.out w2.heap.size 1 ⟨s, A1, A2, c1, c2⟩ HB3.out rfl HN3.out (by omega) hz3 ?_; intro v4 w4 b4 hb4 l4 g4; have HL4 := Lib.hid l4; have HR4 := Lib.hid (HR3.out.apart g4 (by omega) (by omega)); have HG4 := Lib.hid (grown_apart HG3.out g4 (by omega)); clear l4 g4 hb4)
            go_roundw
            case rel => exact ⟨m, q2, b4, v4, _, by omega, by go_num, rfl, by simp; omega, by omega, by omega, HL4, HWT2, HR4, HG4⟩
            case measure => simp [intOf]
end Go.Proofs.YtabignplhkbcpaaGreatDoor

namespace Go.Proofs.YtabignplhkbcpaaGreatDoor
open Go.RowKit

/-- A program that was drawn. -/
def DrawnPr (B : Nat) (w : World) (r : Ending) (w' : World) : Prop :=
  ∃ (A : Option Addr) (c : Nat) (xs : List St), r = .returned (.slice A xs.length c) ∧ xs.length ≤ c ∧ LinesU w' w'.heap.size A xs ∧ xs.length ≤ 17 ∧ stWts xs ≤ 90000 ∧ Below B w w'
theorem stWts_bound (ds : List Ld) (h : ∀ d ∈ ds, d.s.wt ≤ 5000) : stWts (ds.map (·.s)) ≤ 5001 * ds.length := by
  unfold stWts
  induction ds with
  | nil => simp
  | cons d ds ih =>
    have h1 := h d List.mem_cons_self
    have h2 := ih (fun x hx => h x (List.mem_cons_of_mem _ hx))
    simp only [List.map_cons, List.sum_cons, List.length_cons]
    omega
theorem LinesO.drawn {lo0 B : Nat} {w W : World} {b : Nat} {v : Value} {ds : List Ld} (h : LinesO lo0 W b v ds) (hn : ds.length ≤ 17) (hw : ∀ d ∈ ds, d.s.wt ≤ 5000) (hb : Below B w W) : DrawnPr B w (.returned v) W := by
  obtain ⟨A, c, rfl, hc, hL⟩ := h.lines
  have := stWts_bound ds hw
  exact ⟨A, c, ds.map (·.s), by rw [List.length_map], by rw [List.length_map]; exact hc, hL, by rw [List.length_map]; exact hn, by omega, hb⟩
def lenOfV : Value → Nat
  | .slice _ n _ => n
  | _ => 0
def zeroLd : Ld := ⟨⟨0, ⟨#[]⟩, ⟨#[]⟩, .mk 0 0 ⟨#[]⟩ [], .mk 0 0 ⟨#[]⟩ []⟩, none, none, 0, 0⟩
theorem newLd_zero (W : World) (lo0 b : Nat) (h : lo0 ≤ b) (h2 : b ≤ W.heap.size) : NewLd lo0 b W zeroLd := ⟨⟨Nat.le_refl _, Nat.le_refl _⟩, own_empty W 0 0 ⟨#[]⟩ lo0 b h h2 none, own_empty W 0 0 ⟨#[]⟩ lo0 b h h2 none⟩

set_option maxRecDepth 100000 in
set_option maxHeartbeats 4000000 in
theorem l6Bent_any (B g : Nat) (A0 : Option Addr) (len cap p : Nat) (w : World) (hr : Rd w B g A0 len cap p) (hp : p ≤ 1000) :
    Calls Tryz.prog 19 #[.pointer (some ⟨g, 0, none⟩)] w (DrawnPr B w) := by
  have hgl := hr.lt
  have hBg := hr.2.1
  have HP := Lib.hid (l6Prog_any B g A0 len cap p w hr (by omega))
  clear hr
  go_enter Tryz.func19, Tryz.ntmps19
  go_wp2_with fail
  refine HP.out.mono ?_
  rintro r w1 ⟨v, b, ds, rfl, hL1, hn1, hw1, q1, h11, h12, hrd1, hgr1⟩
  have HL1 := Lib.hid hL1
  have HW1 := Lib.hid hw1
  have HG1 := Lib.hid hgr1
  have HPK := Lib.hid (pick_any B g A0 len cap q1 40 w1 hrd1 (by omega) (by decide) (by decide))
  clear hL1 hw1 hrd1 hgr1 HP
  go_wp2_with fail
  refine HPK.out.mono ?_
  rintro r w2 ⟨c, hc, rfl, q2, h21, h22, hrd2, hgr2⟩
  have HL2 := Lib.hid (HL1.out.grown hgr2 hgl)
  have HG2 := Lib.hid (grown_trans HG1.out hgr2)
  have HR2 := Lib.hid hrd2
  have hz2 := HG2.out.size
  have HB2 := Lib.hid (grown_below HG2.out hBg (by omega))
  clear HPK hrd2 hgr2 HL1 HG1
  by_cases hc0 : c = 0
  · subst hc0
    have e0 : (((0 : Nat) : Int) == 0) = true := by decide
    have HS := Lib.hid (l5Bent_any B g A0 len cap q2 w2 HR2.out (by omega))
    go_wp2_with fail
    refine HS.out.mono ?_
    rintro r w3 ⟨s, A1, A2, c1, c2, rfl, h1, h2, h3, h4, h5, q3, hq31, hq32, hrd3, hgr3⟩
    have hlt := HL2.out.lt
    have HL3 := Lib.hid (HL2.out.grown hgr3 hgl)
    have HG3 := Lib.hid (grown_trans HG2.out hgr3)
    obtain ⟨W3, hW3⟩ : ∃ W3, W3 = w3.alloc (.cells (ldC ⟨s, A1, A2, c1, c2⟩).toArray 36) := ⟨_, rfl⟩
    have hb3 : Below w3.heap.size w3 W3 := by rw [hW3]; exact (Below.refl _ w3).alloc (Nat.le_refl _) _
    have HL4 := Lib.hid (HL3.out.below hb3)
    have HN4 := Lib.hid (show NewLd w.heap.size b W3 ⟨s, A1, A2, c1, c2⟩ from ⟨⟨h1, h2⟩, (h3.out (lo0 := w.heap.size) (b := b) hz2 hlt.2).below hb3, (h4.out (lo0 := w.heap.size) (b := b) hz2 hlt.2).below hb3⟩)
    have HB4 := Lib.hid (show W3.heap[w3.heap.size]? = some (.cells (ldC ⟨s, A1, A2, c1, c2⟩).toArray 36 (0, 0)) by rw [hW3]; exact World.alloc_heap_new w3 _)
    have HG4 := Lib.hid (grown_of_below HG3.out hb3)
    have HWT2 := Lib.hid (show ∀ d ∈ ds ++ [(⟨s, A1, A2, c1, c2⟩ : Ld)], d.s.wt ≤ 5000 from fun d hd => by
      rcases List.mem_append.1 hd with hd | hd
      · exact HW1.out d hd
      · simp at hd; subst hd; exact h5)
    have hz4 := HG4.out.size
    unfold ldC at hW3
    unfold stV
    clear h1 h2 h3 h4 h5 hrd3 hgr3 HL2 HL3 HG2 HS hb3
    go_wp2_with (at_builtin; rw [← hW3]; refine wpList_appL rfl _ _ rfl w.heap.size b v ds rfl HL4.out w3.heap.size 1 ⟨s, A1, A2, c1, c2⟩ HB4.out rfl HN4.out (by omega) hz4 ?_; intro v4 w4 b4 hb4 l4 g4; have HL5 := Lib.hid l4; have HG5 := Lib.hid (grown_apart HG4.out g4 (by omega)); clear l4 g4 hb4)
    go_ret
    exact HL5.out.drawn (by simp; omega) HWT2.out (grown_below HG5.out hBg (by omega))
  · have e0 : ((c : Int) == 0) = false := by rw [beq_eq_false_iff_ne]; omega
    by_cases hc1 : c = 1
    · subst hc1
      have e1 : (((1 : Nat) : Int) == 1) = true := by decide
      go_wp2_with fail
      go_loopw [3] (fun s wr => ∃ (b : Nat) (v : Value) (A : Option Addr) (cc : Nat) (ds : List Ld), s = v ∧ v = .slice A ds.length cc ∧ ds.length ≤ 17 ∧ Hid (LinesO w.heap.size wr b v ds) ∧ Hid (∀ d ∈ ds, d.s.wt ≤ 5000) ∧ Hid (w.grownBy wr (some g))) (fun s _ => 17 - lenOfV s)
      case atStart =>
        obtain ⟨A, cc, hv, _, _⟩ := HL2.out.lines
        exact ⟨b, v, A, cc, ds, rfl, hv, by omega, Lib.hid HL2.out, HW1, HG2⟩
      case round =>
        obtain ⟨b', v', A', cc', ds', rfl, rfl, hn, HL, HW, HG⟩ := hrel
        have hz := HG.out.size
        by_cases hle : ds'.length ≤ 16
        · have e2 : decide ((ds'.length : Int) ≤ 16) = true := decide_eq_true (by omega)
          have hlt := HL.out.lt
          obtain ⟨W3, hW3⟩ : ∃ W3, W3 = wr.alloc (.cells (ldC zeroLd).toArray 36) := ⟨_, rfl⟩
          have hb3 : Below wr.heap.size wr W3 := by rw [hW3]; exact (Below.refl _ wr).alloc (Nat.le_refl _) _
          have HL4 := Lib.hid (HL.out.below hb3)
          have HN4 := Lib.hid (newLd_zero W3 w.heap.size b' hlt.1 (by have := HL4.out.lt; omega))
          have HB4 := Lib.hid (show W3.heap[wr.heap.size]? = some (.cells (ldC zeroLd).toArray 36 (0, 0)) by rw [hW3]; exact World.alloc_heap_new wr _)
          have HG4 := Lib.hid (grown_of_below HG.out hb3)
          have HWT2 := Lib.hid (show ∀ d ∈ ds' ++ [zeroLd], d.s.wt ≤ 5000 from fun d hd => by
            rcases List.mem_append.1 hd with hd | hd
            · exact HW.out d hd
            · simp at hd; subst hd; exact Nat.zero_le _)
          have hz4 := HG4.out.size
          unfold ldC zeroLd at hW3
          simp only [Ex.kind, Ex.n, Ex.s, Ex.kids, List.length_nil] at hW3
          clear hb3
          go_wp2_with (at_builtin; rw [← hW3]; refine wpList_appL rfl _ _ rfl w.heap.size b' _ ds' rfl HL4.out wr.heap.size 1 zeroLd HB4.out rfl HN4.out (by omega) hz4 ?_; intro v4 w4 b4 hb4 l4 g4; have HL5 := Lib.hid l4; have HG5 := Lib.hid (grown_apart HG4.out g4 (by omega)); clear l4 g4 hb4)
          obtain ⟨A5, c5, hv5, _, _⟩ := HL5.out.lines
          go_roundw
          case rel => exact ⟨b4, v4, A5, c5, _, rfl, hv5, by simp; omega, HL5, HWT2, HG5⟩
          case measure => rw [hv5]; simp [lenOfV]; omega
        · have e2 : decide ((ds'.length : Int) ≤ 16) = false := decide_eq_false (by omega)
          go_wp2_with fail
          go_ret
          exact HL.out.drawn hn HW.out (grown_below HG.out hBg (by omega))
    · have e1 : ((c : Int) == 1) = false := by rw [beq_eq_false_iff_ne]; omega
      obtain ⟨A, cc, rfl, hcc, _⟩ := HL2.out.lines
      by_cases hc2 : c = 2
      · subst hc2
        have e2 : (((2 : Nat) : Int) == 2) = true := by decide
        go_wp2_with fail
        go_ret
        exact ⟨A, cc, [], rfl, Nat.zero_le _, .inl rfl, by simp, by simp [stWts], HB2.out⟩
      · have e2 : ((c : Int) == 2) = false := by rw [beq_eq_false_iff_ne]; omega
        go_wp2_with fail
        go_ret
        exact HL2.out.drawn (by omega) HW1.out HB2.out
theorem drawProgOk_any (A : Option Addr) (len cap : Nat) (w : World) (h : InCode w A len cap) : Calls Tryz.prog 17 #[.slice A len cap] w (DrawnPr w.heap.size w) := by
  have HO := Lib.hid (open_any A len cap w h)
  clear h
  go_enter Tryz.func17, Tryz.ntmps17
  go_wp2_with fail
  refine HO.out.mono ?_
  rintro r w1 ⟨A', len', cap', rfl, hrd, hb1⟩
  have HI := Lib.hid (l6Bent_any w.heap.size w.heap.size A' len' cap' 0 w1 hrd (by omega))
  clear HO hrd
  go_wp2_with fail
  refine HI.out.mono ?_
  rintro r w2 ⟨A2, c2, xs, rfl, h1, h2, h3, h4, hb2⟩
  have HX := Lib.hid h2
  have HW := Lib.hid h4
  clear h2 h4 HI
  go_wp2_with fail
  go_ret
  exact ⟨A2, c2, xs, rfl, h1, HX.out, h3, HW.out, hb1.trans hb2⟩
theorem drawProgType_any (A : Option Addr) (len cap : Nat) (w : World) (h : InCode w A len cap) : Calls Tryz.prog 14 #[.slice A len cap] w (DrawnPr w.heap.size w) := by
  have HO := Lib.hid (open_any A len cap w h)
  clear h
  go_enter Tryz.func14, Tryz.ntmps14
  go_wp2_with fail
  refine HO.out.mono ?_
  rintro r w1 ⟨A', len', cap', rfl, hrd, hb1⟩
  have HI := Lib.hid (l6Bent_any w.heap.size w.heap.size A' len' cap' 0 w1 hrd (by omega))
  clear HO hrd
  go_wp2_with fail
  refine HI.out.mono ?_
  rintro r w2 ⟨A2, c2, xs, rfl, h1, h2, h3, h4, hb2⟩
  have HX := Lib.hid h2
  have HW := Lib.hid h4
  clear h2 h4 HI
  go_wp2_with fail
  go_ret
  exact ⟨A2, c2, xs, rfl, h1, HX.out, h3, HW.out, hb1.trans hb2⟩
theorem drawProgRun_any (A : Option Addr) (len cap : Nat) (w : World) (h : InCode w A len cap) : Calls Tryz.prog 10 #[.slice A len cap] w (DrawnPr w.heap.size w) := by
  have HO := Lib.hid (open_any A len cap w h)
  clear h
  go_enter Tryz.func10, Tryz.ntmps10
  go_wp2_with fail
  refine HO.out.mono ?_
  rintro r w1 ⟨A', len', cap', rfl, hrd, hb1⟩
  have HI := Lib.hid (l6Bent_any w.heap.size w.heap.size A' len' cap' 0 w1 hrd (by omega))
  clear HO hrd
  go_wp2_with fail
  refine HI.out.mono ?_
  rintro r w2 ⟨A2, c2, xs, rfl, h1, h2, h3, h4, hb2⟩
  have HX := Lib.hid h2
  have HW := Lib.hid h4
  clear h2 h4 HI
  go_wp2_with fail
  go_ret
  exact ⟨A2, c2, xs, rfl, h1, HX.out, h3, HW.out, hb1.trans hb2⟩
end Go.Proofs.YtabignplhkbcpaaGreatDoor

namespace Go.Proofs.YtabignplhkbcpaaGreatDoor
open Go.RowKit Go.Deep

instance : Inhabited Ld := ⟨zeroLd⟩
/-- How lines lie, said cell by cell. -/
theorem LinesU.ld {w : World} {B : Nat} {A : Option Addr} {xs : List St} (h : LinesU w B A xs) (hB : B ≤ w.heap.size) : ∃ ds : List Ld, ds.map (·.s) = xs ∧ SlIs w A (rowL ds) ∧ ∀ d ∈ ds, (d.s.e.kids.length ≤ d.c1 ∧ d.s.t.kids.length ≤ d.c2) ∧ KidsU w B d.A1 d.s.e.kids ∧ KidsU w B d.A2 d.s.t.kids := by
  rcases h with h | ⟨g, off, rfl, hg, h3⟩
  · exact ⟨[], by rw [h]; rfl, .inl rfl, fun d hd => by cases hd⟩
  · have hall : ∀ j, j < xs.length → ∃ d : Ld, (∀ hj : j < xs.length, d.s = xs[j]) ∧ (∀ i, i < 11 → w.cell? ⟨g, off + j * 11 + i, none⟩ = (ldC d)[i]?) ∧ (d.s.e.kids.length ≤ d.c1 ∧ d.s.t.kids.length ≤ d.c2) ∧ KidsU w B d.A1 d.s.e.kids ∧ KidsU w B d.A2 d.s.t.kids := by
      intro j hj
      obtain ⟨D1, m1, D2, m2, ⟨⟨c0, c1, c2, c3, c4, c5, c6, c7, c8, c9, c10⟩, hm1, hm2⟩, k1, k2⟩ := h3 j hj
      refine ⟨⟨xs[j], D1, D2, m1, m2⟩, fun _ => rfl, fun i hi => ?_, ⟨hm1, hm2⟩, k1, k2⟩
      match i, hi with
      | 0, _ => exact c0
      | 1, _ => exact c1
      | 2, _ => exact c2
      | 3, _ => exact c3
      | 4, _ => exact c4
      | 5, _ => exact c5
      | 6, _ => exact c6
      | 7, _ => exact c7
      | 8, _ => exact c8
      | 9, _ => exact c9
      | 10, _ => exact c10
    obtain ⟨q, hq⟩ := choose_lt hall
    refine ⟨(List.range xs.length).map q, ?_, ?_, ?_⟩
    · apply List.ext_getElem
      · simp
      · intro i h1 h2
        simp only [List.getElem_map, List.getElem_range]
        exact (hq i h2).1 h2
    · refine .inr ⟨g, off, rfl, by omega, fun j u hu => ?_⟩
      have hl := rowL_length ((List.range xs.length).map q)
      have hj := (List.getElem?_eq_some_iff.1 hu).1
      rw [hl, List.length_map, List.length_range] at hj
      have h1 := rowL_get ((List.range xs.length).map q) (j / 11) (by simp; omega) (j % 11) (by omega)
      rw [show j / 11 * 11 + j % 11 = j by omega, List.getElem_map, List.getElem_range] at h1
      have h2 := (hq (j / 11) (by omega)).2.1 (j % 11) (by omega)
      rw [show off + j / 11 * 11 + j % 11 = off + j by omega] at h2
      rw [h2, ← h1, hu]
    · intro d hd
      obtain ⟨j, hj, rfl⟩ := List.mem_map.1 hd
      exact (hq j (List.mem_range.1 hj)).2.2
/-- A row of one's own, whose lines' parts lie somewhere. -/
theorem lines_row {W : World} {base B n : Nat} {v : Value} {ds : List Ld} (h : W.ownsRow base 36 11 v n (rowL ds)) (hn : ds.length = n) (hk : ∀ d ∈ ds, (d.s.e.kids.length ≤ d.c1 ∧ d.s.t.kids.length ≤ d.c2) ∧ KidsU W B d.A1 d.s.e.kids ∧ KidsU W B d.A2 d.s.t.kids) (hB : B ≤ W.heap.size) :
    ∃ A c, v = .slice A n c ∧ n ≤ c ∧ LinesU W W.heap.size A (ds.map (·.s)) := by
  rcases h.2 with ⟨rfl, e⟩ | ⟨g, cap, cur, rfl, h1, h2, h3, h4⟩
  · exact ⟨none, 0, by rw [e], by omega, .inl (by rw [show ds = [] from List.eq_nil_of_length_eq_zero (by omega)]; rfl)⟩
  · refine ⟨_, cap, rfl, h3, .inr ⟨g, 0, rfl, (Array.getElem?_eq_some_iff.1 h2).1, fun j hj => ?_⟩⟩
    have hj' : j < ds.length := by simpa using hj
    obtain ⟨⟨p1, p2⟩, p3, p4⟩ := hk ds[j] (List.getElem_mem hj')
    have hc' : ∀ i, i < 11 → W.cell? ⟨g, 0 + j * 11 + i, none⟩ = (ldC ds[j])[i]? := fun i hi => by
      rw [Nat.zero_add, h.cellAt (j * 11 + i) (by omega), rowL_get ds j hj' i hi]
    rw [List.getElem_map]
    exact ⟨ds[j].A1, ds[j].c1, ds[j].A2, ds[j].c2, ⟨⟨hc' 0 (by omega), hc' 1 (by omega), hc' 2 (by omega), hc' 3 (by omega), hc' 4 (by omega), hc' 5 (by omega), hc' 6 (by omega), hc' 7 (by omega), hc' 8 (by omega), hc' 9 (by omega), hc' 10 (by omega)⟩, p1, p2⟩, p3.wide hB, p4.wide hB⟩
theorem rowL_one' (ds : List Ld) : ∀ u ∈ rowL ds, u.oneCell' = true := by
  intro u hu
  obtain ⟨d, _, hd⟩ := List.mem_flatMap.1 hu
  exact ldC_one d u hd
theorem rowL_app (ds es : List Ld) : rowL (ds ++ es) = rowL ds ++ rowL es := by simp [rowL]
/-- append of lines onto a row of one's own, as a step of a region that draws. -/
theorem step_appR {ops : Array Oper} {o : Oper} {a : Act} {Y : World} {K : Act → World → Prop} {Q : Exit → Act → World → Prop} {E : Prop}
    (hg : o.guard = none) (s x : Operand) (hop : o.op = Op.call { callee := Callee.builtin Builtin.append, args := #[s, x], argTypes := #[23, 23] })
    (lo0 : Nat) (v : Value) (n : Nat) (ds : List Ld) (_ : ds.length = n) (hs : a.eval s = v) (hown : Y.ownsRow lo0 36 11 v n (rowL ds))
    (g off m c : Nat) (es : List Ld) (hm : es.length = m) (hcell : ∀ j u, (rowL es)[j]? = some u → Y.cell? ⟨g, off + j, none⟩ = some u) (hx : a.eval x = .slice (some ⟨g, off, none⟩) m c)
    (b1 : n + m ≤ 100000) (hbase : lo0 ≤ Y.heap.size)
    (hK : ∀ v' Z, Z.ownsRow lo0 36 11 v' (n + m) (rowL (ds ++ es)) → Y.grownBy Z v.ownBlock → (v'.ownBlock = v.ownBlock ∨ v'.ownBlock = some Y.heap.size) → K (a.put o.dst v') Z) :
    if Region.wanted o (yielded ops a.tmps) = true then Oper.wp Tryz.prog o a Y K Q else E := by
  obtain ⟨i0, hi, hz0, hz1, hz2⟩ := info_lines
  have hw : Region.wanted o (yielded ops a.tmps) = true := by simp [Region.wanted, hg]
  rw [if_pos hw]
  obtain ⟨v', w', hrun, r1, r2, _, r4⟩ := run_append_own_at (P := Tryz.prog) Y lo0 23 o.type 36 i0 (.agg zeroSt) 11 i0.bytes Tryz.underlying23 hi hz0 hz1 rfl rfl (by decide) v n (rowL ds) hown ⟨g, off, none⟩ m c (rowL es) (by rw [rowL_length, hm])
    (fun j u hj => by
      have hp : (⟨g, off, none⟩ : Addr).add j = ⟨g, off + j, none⟩ := by unfold Addr.add; split <;> simp_all
      rw [hp]; exact hcell j u hj)
    (rowL_one' es) (by unfold maxLen; omega) (Nat.le_trans (Nat.mul_le_mul b1 hz2) (by decide)) hbase
  unfold Oper.wp
  simp [execOp, hop, resolve, invoke, builtin, hs, hx, hrun, Result.andThen]
  exact hK v' w' (by rw [rowL_app]; exact r1) r2 r4
theorem owns_at {W : World} {lo0 n : Nat} (h : W.heap[n]? = some (.cells #[] 36 (0, 0))) (hn : lo0 ≤ n) : W.ownsRow lo0 36 11 (.slice (some ⟨n, 0, none⟩) 0 0) 0 (rowL []) :=
  ⟨by simp [rowL], .inr ⟨n, 0, #[], rfl, hn, h, Nat.le_refl _, by simp [maxLen], by simp, by simp [rowL]⟩⟩
end Go.Proofs.YtabignplhkbcpaaGreatDoor
