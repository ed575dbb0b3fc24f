/-
  What is drawn to be reckoned, with names and numbers, by a code: the model's DrawExprOf.
-/
import Derived.Test.YtaclndbilpaboaaGreatDoorDrawOk
import Derived.Test.YtaclndbilpaboaaGreatDoorSet4
import Derived.Test.YtaclndbilpaboaaGreatDoorInts
import Derived.Test.YtaclndbilpaboaaGreatDoorRegInv
namespace Go.Proofs.YtaclndbilpaboaaGreatDoor
open Go.RowKit

/-- Something to be reckoned was drawn, with names and numbers. -/
def DrawnO (w : World) (r : Ending) (w' : World) : Prop :=
  ∃ (e : Ex) (A : Option Addr) (c : Nat) (An Av : Option Addr) (cn cv : Nat) (ss : List ByteArray) (zs : List Int), r = .returned (.tuple #[.agg #[.int .i64 e.kind, .int .i64 e.n, .string e.s, .slice A e.kids.length c], .slice An ss.length cn, .slice Av zs.length cv]) ∧ e.kids.length ≤ c ∧ OwnE w' e w.heap.size w'.heap.size A ∧ e.short ∧ e.wt ≤ 2000 ∧ SlIs w' An (ss.map strV) ∧ SlIs w' Av (zs.map intV) ∧ ss.length ≤ 4 ∧ zs.length ≤ 4 ∧ (∀ z ∈ zs, -10000000 ≤ z ∧ z ≤ 10000000) ∧ Below w.heap.size w w'
theorem sl_of_blkI {w : World} {b : Nat} {zs : List Int} (h : w.heap[b]? = some (.cells (zs.map intV).toArray 3)) : SlIs w (some ⟨b, 0, none⟩) (zs.map intV) := by
  refine .inr ⟨b, 0, rfl, (Array.getElem?_eq_some_iff.1 h).1, fun j u hu => ?_⟩
  have hx : w.cell? ⟨b, 0 + j, none⟩ = ((zs.map intV).toArray)[0 + j]? := by simp [World.cell?, h]
  rw [hx, Nat.zero_add, List.getElem?_toArray]
  exact hu
theorem rd_drew {w : World} {B g : Nat} {A : Option Addr} {len cap p : Nat} (h : Rd w B g A len cap p) : Rd w.drew B g A len cap p := h
/-- A list that was laid behind N. -/
def Bs (W : World) (N : Nat) (v : Value) (cs : List Value) (t : TypeId) : Prop := ∃ b, v = .slice (some ⟨b, 0, none⟩) cs.length cs.length ∧ N ≤ b ∧ W.heap[b]? = some (.cells cs.toArray t)
theorem Bs.keep {W W' : World} {N : Nat} {v : Value} {cs : List Value} {t : TypeId} (h : Bs W N v cs t) (hk : ∀ k, N ≤ k → k < W.heap.size → W'.heap[k]? = W.heap[k]?) : Bs W' N v cs t := by
  obtain ⟨b, h1, h2, h3⟩ := h
  exact ⟨b, h1, h2, (hk b h2 (Array.getElem?_eq_some_iff.1 h3).1).trans h3⟩
def IsI (v : Value) : Prop := ∃ z : Int, v = .int .i64 z ∧ -10000000 ≤ z ∧ z ≤ 10000000
theorem on_self {l : Array Bool} {i : Nat} (h : i < l.size) : On (l.setIfInBounds i true) i := by unfold On; simp [h]
theorem low_of {md : Region.Mode} {ops : Array Oper} (h : ((List.range ops.size).all fun i => match ops[i]? with | some o => o.after.all (fun e => !Region.binds md e || decide (e.on < i)) | none => true) = true) : ∀ (i : Nat) (o : Oper), ops[i]? = some o → ∀ e ∈ o.after, Region.binds md e = true → e.on < i := by
  intro i o ho e he hb
  have hi : i < ops.size := (Array.getElem?_eq_some_iff.1 ho).1
  have h1 := List.all_eq_true.1 h i (List.mem_range.2 hi)
  simp only [ho, Array.all_eq_true_iff_forall_mem, Bool.or_eq_true, Bool.not_eq_true', decide_eq_true_eq] at h1
  rcases h1 e he with h2 | h2
  · rw [hb] at h2; cases h2
  · exact h2
theorem not_on_rep (n i : Nat) : ¬ On (Array.replicate n false) i := by
  unfold On
  rcases Nat.lt_or_ge i n with h | h <;> simp [h]
theorem steps_cons {P : Program} {md : Region.Mode} {ops : Array Oper} {Q : Exit → Act → World → Prop} {I : Array Bool → Act → World → Prop} {i : Nat} {o : Oper} {os : List Oper} (h : StepInv P md ops Q I i o) (hs : StepsInv P md ops Q I (i + 1) os) : StepsInv P md ops Q I i (o :: os) := ⟨h, hs⟩
theorem steps_nil {P : Program} {md : Region.Mode} {ops : Array Oper} {Q : Exit → Act → World → Prop} {I : Array Bool → Act → World → Prop} {i : Nat} : StepsInv P md ops Q I i [] := trivial
/-- What holds, whichever operations have come up. -/
structure DInv (G n0 nE Q0 : Nat) (A' : Option Addr) (len' cap' : Nat) (w4 : World) (e4 : Array Value) (l : Array Bool) (W : World) (v23 v24 v25 v26 v27 v28 v29 v30 v31 v32 v33 v34 t3 t4 : Value) : Prop where
  sz : l.size = 15
  f0 : On l 0 → v23 = .agg e4
  f1 : On l 1 → Bs W w4.heap.size v24 [.string ⟨#[120]⟩, .string ⟨#[121]⟩, .string ⟨#[122]⟩, .string ⟨#[120]⟩] 9
  f2 : On l 2 → v25 = .pointer (some ⟨G, 0, none⟩)
  f3 : On l 3 → Bs W w4.heap.size v26 [.int .i64 0, .int .i64 1, .int .i64 (-5)] 3
  f4 : On l 4 → IsI v27
  f5 : On l 5 → v28 = .pointer (some ⟨G, 0, none⟩)
  f6 : On l 6 → Bs W w4.heap.size v29 [.int .i64 2, .int .i64 1000] 3
  f7 : On l 7 → IsI v30
  f8 : On l 8 → v31 = .pointer (some ⟨G, 0, none⟩)
  f9 : On l 9 → Bs W w4.heap.size v32 [.int .i64 1, .int .i64 4, .int .i64 9999999] 3
  f10 : On l 10 → IsI v33
  f11 : On l 11 → Bs W w4.heap.size v34 [.int .i64 9, v27, v30, v33] 3
  f12 : On l 12 → Blk W n0 e4
  f13 : On l 13 → t3 = v24
  f14 : On l 14 → t4 = v34
  g12 : ¬ On l 12 → Blk W n0 #[.int .i64 0, .int .i64 0, .string { data := #[] }, .slice none 0 0]
  k11 : On l 11 → On l 4 ∧ On l 7 ∧ On l 10
  k13 : On l 13 → On l 1
  k14 : On l 14 → On l 11
  k7 : On l 7 → On l 4
  k10 : On l 10 → On l 7
  k12 : On l 12 → On l 10
  eb : Blk W nE e4
  rd : ¬ On l 12 → ∃ q, Rd W G G A' len' cap' q ∧ (¬ On l 4 → q ≤ Q0) ∧ (¬ On l 7 → q ≤ Q0 + 1) ∧ (¬ On l 10 → q ≤ Q0 + 2)
  bl : ∀ k, k < w4.heap.size → k ≠ G → k ≠ n0 → W.heap[k]? = w4.heap[k]?
  os : W.os = w4.os
  tape : W.tape = w4.tape
  output : W.output = w4.output
  zz : w4.heap.size ≤ W.heap.size
section
variable {G n0 nE Q0 : Nat} {A' : Option Addr} {len' cap' : Nat} {w4 : World} {e4 : Array Value} {l : Array Bool} {W W' : World} {v23 v24 v25 v26 v27 v28 v29 v30 v31 v32 v33 v34 t3 t4 : Value}
theorem DInv.grow (h : DInv G n0 nE Q0 A' len' cap' w4 e4 l W v23 v24 v25 v26 v27 v28 v29 v30 v31 v32 v33 v34 t3 t4) (hG : G < w4.heap.size) (hGn : n0 ≠ G) (hGe : nE ≠ G) (hz : W.heap.size ≤ W'.heap.size) (hk : ∀ k, k < W.heap.size → k ≠ G → W'.heap[k]? = W.heap[k]?) (hos : W'.os = W.os ∧ W'.tape = W.tape ∧ W'.output = W.output) (hrd : ¬ On l 12 → ∃ q, Rd W' G G A' len' cap' q ∧ (¬ On l 4 → q ≤ Q0) ∧ (¬ On l 7 → q ≤ Q0 + 1) ∧ (¬ On l 10 → q ≤ Q0 + 2)) : DInv G n0 nE Q0 A' len' cap' w4 e4 l W' v23 v24 v25 v26 v27 v28 v29 v30 v31 v32 v33 v34 t3 t4 := by
  have hb : ∀ k, w4.heap.size ≤ k → k < W.heap.size → W'.heap[k]? = W.heap[k]? := fun k h1 h2 => hk k h2 (by omega)
  exact { h with
    f1 := fun x => (h.f1 x).keep hb
    f3 := fun x => (h.f3 x).keep hb
    f6 := fun x => (h.f6 x).keep hb
    f9 := fun x => (h.f9 x).keep hb
    f11 := fun x => (h.f11 x).keep hb
    f12 := fun x => (hk _ (h.f12 x).lt hGn).trans (h.f12 x)
    g12 := fun x => (hk _ (h.g12 x).lt hGn).trans (h.g12 x)
    eb := (hk _ h.eb.lt hGe).trans h.eb
    rd := hrd
    bl := fun k h1 h2 h3 => (hk k (by have := h.zz; omega) h2).trans (h.bl k h1 h2 h3)
    os := hos.1.trans h.os
    tape := hos.2.1.trans h.tape
    output := hos.2.2.trans h.output
    zz := Nat.le_trans h.zz hz }
theorem DInv.alloc (h : DInv G n0 nE Q0 A' len' cap' w4 e4 l W v23 v24 v25 v26 v27 v28 v29 v30 v31 v32 v33 v34 t3 t4) (hG : G < w4.heap.size) (hGn : n0 ≠ G) (hGe : nE ≠ G) (ob : Obj) : DInv G n0 nE Q0 A' len' cap' w4 e4 l (W.alloc ob) v23 v24 v25 v26 v27 v28 v29 v30 v31 v32 v33 v34 t3 t4 :=
  h.grow hG hGn hGe (by simp) (fun k hk _ => Below.heap_alloc _ _ _ hk) ⟨rfl, rfl, rfl⟩ (fun n12 => by obtain ⟨q, h1, h2⟩ := h.rd n12; exact ⟨q, h1.alloc _, h2⟩)
set_option linter.unusedVariables false in
theorem DInv.on0 (h : DInv G n0 nE Q0 A' len' cap' w4 e4 l W v23 v24 v25 v26 v27 v28 v29 v30 v31 v32 v33 v34 t3 t4) (hn : ¬ On l 0) {x : Value} (hx : x = .agg e4) : DInv G n0 nE Q0 A' len' cap' w4 e4 (l.setIfInBounds 0 true) W x v24 v25 v26 v27 v28 v29 v30 v31 v32 v33 v34 t3 t4 := by
  exact {
    sz := by simpa using h.sz
    f0 := fun _ => hx
    f1 := fun y => h.f1 (y.set (by decide))
    f2 := fun y => h.f2 (y.set (by decide))
    f3 := fun y => h.f3 (y.set (by decide))
    f4 := fun y => h.f4 (y.set (by decide))
    f5 := fun y => h.f5 (y.set (by decide))
    f6 := fun y => h.f6 (y.set (by decide))
    f7 := fun y => h.f7 (y.set (by decide))
    f8 := fun y => h.f8 (y.set (by decide))
    f9 := fun y => h.f9 (y.set (by decide))
    f10 := fun y => h.f10 (y.set (by decide))
    f11 := fun y => h.f11 (y.set (by decide))
    f12 := fun y => h.f12 (y.set (by decide))
    f13 := fun y => h.f13 (y.set (by decide))
    f14 := fun y => h.f14 (y.set (by decide))
    g12 := fun y => h.g12 (fun z => y z.more)
    k11 := fun y => ⟨(h.k11 (y.set (by decide))).1.more, (h.k11 (y.set (by decide))).2.1.more, (h.k11 (y.set (by decide))).2.2.more⟩
    k13 := fun y => (h.k13 (y.set (by decide))).more
    k14 := fun y => (h.k14 (y.set (by decide))).more
    k7 := fun y => (h.k7 (y.set (by decide))).more
    k10 := fun y => (h.k10 (y.set (by decide))).more
    k12 := fun y => (h.k12 (y.set (by decide))).more
    eb := h.eb
    rd := fun n12 => by obtain ⟨q, h1, h2, h3, h4⟩ := h.rd (fun z => n12 z.more); exact ⟨q, h1, fun y => h2 (fun z => y z.more), fun y => h3 (fun z => y z.more), fun y => h4 (fun z => y z.more)⟩
    bl := h.bl
    os := h.os
    tape := h.tape
    output := h.output
    zz := h.zz }
set_option linter.unusedVariables false in
theorem DInv.on1 (h : DInv G n0 nE Q0 A' len' cap' w4 e4 l W v23 v24 v25 v26 v27 v28 v29 v30 v31 v32 v33 v34 t3 t4) (hn : ¬ On l 1) {x : Value} (hx : Bs W w4.heap.size x [.string ⟨#[120]⟩, .string ⟨#[121]⟩, .string ⟨#[122]⟩, .string ⟨#[120]⟩] 9) : DInv G n0 nE Q0 A' len' cap' w4 e4 (l.setIfInBounds 1 true) W v23 x v25 v26 v27 v28 v29 v30 v31 v32 v33 v34 t3 t4 := by
  exact {
    sz := by simpa using h.sz
    f0 := fun y => h.f0 (y.set (by decide))
    f1 := fun _ => hx
    f2 := fun y => h.f2 (y.set (by decide))
    f3 := fun y => h.f3 (y.set (by decide))
    f4 := fun y => h.f4 (y.set (by decide))
    f5 := fun y => h.f5 (y.set (by decide))
    f6 := fun y => h.f6 (y.set (by decide))
    f7 := fun y => h.f7 (y.set (by decide))
    f8 := fun y => h.f8 (y.set (by decide))
    f9 := fun y => h.f9 (y.set (by decide))
    f10 := fun y => h.f10 (y.set (by decide))
    f11 := fun y => h.f11 (y.set (by decide))
    f12 := fun y => h.f12 (y.set (by decide))
    f13 := fun y => absurd (h.k13 (y.set (by decide))) hn
    f14 := fun y => h.f14 (y.set (by decide))
    g12 := fun y => h.g12 (fun z => y z.more)
    k11 := fun y => ⟨(h.k11 (y.set (by decide))).1.more, (h.k11 (y.set (by decide))).2.1.more, (h.k11 (y.set (by decide))).2.2.more⟩
    k13 := fun y => (h.k13 (y.set (by decide))).more
    k14 := fun y => (h.k14 (y.set (by decide))).more
    k7 := fun y => (h.k7 (y.set (by decide))).more
    k10 := fun y => (h.k10 (y.set (by decide))).more
    k12 := fun y => (h.k12 (y.set (by decide))).more
    eb := h.eb
    rd := fun n12 => by obtain ⟨q, h1, h2, h3, h4⟩ := h.rd (fun z => n12 z.more); exact ⟨q, h1, fun y => h2 (fun z => y z.more), fun y => h3 (fun z => y z.more), fun y => h4 (fun z => y z.more)⟩
    bl := h.bl
    os := h.os
    tape := h.tape
    output := h.output
    zz := h.zz }
set_option linter.unusedVariables false in
theorem DInv.on2 (h : DInv G n0 nE Q0 A' len' cap' w4 e4 l W v23 v24 v25 v26 v27 v28 v29 v30 v31 v32 v33 v34 t3 t4) (hn : ¬ On l 2) {x : Value} (hx : x = .pointer (some ⟨G, 0, none⟩)) : DInv G n0 nE Q0 A' len' cap' w4 e4 (l.setIfInBounds 2 true) W v23 v24 x v26 v27 v28 v29 v30 v31 v32 v33 v34 t3 t4 := by
  exact {
    sz := by simpa using h.sz
    f0 := fun y => h.f0 (y.set (by decide))
    f1 := fun y => h.f1 (y.set (by decide))
    f2 := fun _ => hx
    f3 := fun y => h.f3 (y.set (by decide))
    f4 := fun y => h.f4 (y.set (by decide))
    f5 := fun y => h.f5 (y.set (by decide))
    f6 := fun y => h.f6 (y.set (by decide))
    f7 := fun y => h.f7 (y.set (by decide))
    f8 := fun y => h.f8 (y.set (by decide))
    f9 := fun y => h.f9 (y.set (by decide))
    f10 := fun y => h.f10 (y.set (by decide))
    f11 := fun y => h.f11 (y.set (by decide))
    f12 := fun y => h.f12 (y.set (by decide))
    f13 := fun y => h.f13 (y.set (by decide))
    f14 := fun y => h.f14 (y.set (by decide))
    g12 := fun y => h.g12 (fun z => y z.more)
    k11 := fun y => ⟨(h.k11 (y.set (by decide))).1.more, (h.k11 (y.set (by decide))).2.1.more, (h.k11 (y.set (by decide))).2.2.more⟩
    k13 := fun y => (h.k13 (y.set (by decide))).more
    k14 := fun y => (h.k14 (y.set (by decide))).more
    k7 := fun y => (h.k7 (y.set (by decide))).more
    k10 := fun y => (h.k10 (y.set (by decide))).more
    k12 := fun y => (h.k12 (y.set (by decide))).more
    eb := h.eb
    rd := fun n12 => by obtain ⟨q, h1, h2, h3, h4⟩ := h.rd (fun z => n12 z.more); exact ⟨q, h1, fun y => h2 (fun z => y z.more), fun y => h3 (fun z => y z.more), fun y => h4 (fun z => y z.more)⟩
    bl := h.bl
    os := h.os
    tape := h.tape
    output := h.output
    zz := h.zz }
set_option linter.unusedVariables false in
theorem DInv.on3 (h : DInv G n0 nE Q0 A' len' cap' w4 e4 l W v23 v24 v25 v26 v27 v28 v29 v30 v31 v32 v33 v34 t3 t4) (hn : ¬ On l 3) {x : Value} (hx : Bs W w4.heap.size x [.int .i64 0, .int .i64 1, .int .i64 (-5)] 3) : DInv G n0 nE Q0 A' len' cap' w4 e4 (l.setIfInBounds 3 true) W v23 v24 v25 x v27 v28 v29 v30 v31 v32 v33 v34 t3 t4 := by
  exact {
    sz := by simpa using h.sz
    f0 := fun y => h.f0 (y.set (by decide))
    f1 := fun y => h.f1 (y.set (by decide))
    f2 := fun y => h.f2 (y.set (by decide))
    f3 := fun _ => hx
    f4 := fun y => h.f4 (y.set (by decide))
    f5 := fun y => h.f5 (y.set (by decide))
    f6 := fun y => h.f6 (y.set (by decide))
    f7 := fun y => h.f7 (y.set (by decide))
    f8 := fun y => h.f8 (y.set (by decide))
    f9 := fun y => h.f9 (y.set (by decide))
    f10 := fun y => h.f10 (y.set (by decide))
    f11 := fun y => h.f11 (y.set (by decide))
    f12 := fun y => h.f12 (y.set (by decide))
    f13 := fun y => h.f13 (y.set (by decide))
    f14 := fun y => h.f14 (y.set (by decide))
    g12 := fun y => h.g12 (fun z => y z.more)
    k11 := fun y => ⟨(h.k11 (y.set (by decide))).1.more, (h.k11 (y.set (by decide))).2.1.more, (h.k11 (y.set (by decide))).2.2.more⟩
    k13 := fun y => (h.k13 (y.set (by decide))).more
    k14 := fun y => (h.k14 (y.set (by decide))).more
    k7 := fun y => (h.k7 (y.set (by decide))).more
    k10 := fun y => (h.k10 (y.set (by decide))).more
    k12 := fun y => (h.k12 (y.set (by decide))).more
    eb := h.eb
    rd := fun n12 => by obtain ⟨q, h1, h2, h3, h4⟩ := h.rd (fun z => n12 z.more); exact ⟨q, h1, fun y => h2 (fun z => y z.more), fun y => h3 (fun z => y z.more), fun y => h4 (fun z => y z.more)⟩
    bl := h.bl
    os := h.os
    tape := h.tape
    output := h.output
    zz := h.zz }
set_option linter.unusedVariables false in
theorem DInv.on4 (h : DInv G n0 nE Q0 A' len' cap' w4 e4 l W v23 v24 v25 v26 v27 v28 v29 v30 v31 v32 v33 v34 t3 t4) (hn : ¬ On l 4) (hrd : ¬ On (l.setIfInBounds 4 true) 12 → ∃ q, Rd W G G A' len' cap' q ∧ (¬ On (l.setIfInBounds 4 true) 4 → q ≤ Q0) ∧ (¬ On (l.setIfInBounds 4 true) 7 → q ≤ Q0 + 1) ∧ (¬ On (l.setIfInBounds 4 true) 10 → q ≤ Q0 + 2)) {x : Value} (hx : IsI x) : DInv G n0 nE Q0 A' len' cap' w4 e4 (l.setIfInBounds 4 true) W v23 v24 v25 v26 x v28 v29 v30 v31 v32 v33 v34 t3 t4 := by
  exact {
    sz := by simpa using h.sz
    f0 := fun y => h.f0 (y.set (by decide))
    f1 := fun y => h.f1 (y.set (by decide))
    f2 := fun y => h.f2 (y.set (by decide))
    f3 := fun y => h.f3 (y.set (by decide))
    f4 := fun _ => hx
    f5 := fun y => h.f5 (y.set (by decide))
    f6 := fun y => h.f6 (y.set (by decide))
    f7 := fun y => h.f7 (y.set (by decide))
    f8 := fun y => h.f8 (y.set (by decide))
    f9 := fun y => h.f9 (y.set (by decide))
    f10 := fun y => h.f10 (y.set (by decide))
    f11 := fun y => absurd ((h.k11 (y.set (by decide))).1) hn
    f12 := fun y => h.f12 (y.set (by decide))
    f13 := fun y => h.f13 (y.set (by decide))
    f14 := fun y => h.f14 (y.set (by decide))
    g12 := fun y => h.g12 (fun z => y z.more)
    k11 := fun y => ⟨(h.k11 (y.set (by decide))).1.more, (h.k11 (y.set (by decide))).2.1.more, (h.k11 (y.set (by decide))).2.2.more⟩
    k13 := fun y => (h.k13 (y.set (by decide))).more
    k14 := fun y => (h.k14 (y.set (by decide))).more
    k7 := fun y => (h.k7 (y.set (by decide))).more
    k10 := fun y => (h.k10 (y.set (by decide))).more
    k12 := fun y => (h.k12 (y.set (by decide))).more
    eb := h.eb
    rd := hrd
    bl := h.bl
    os := h.os
    tape := h.tape
    output := h.output
    zz := h.zz }
set_option linter.unusedVariables false in
theorem DInv.on5 (h : DInv G n0 nE Q0 A' len' cap' w4 e4 l W v23 v24 v25 v26 v27 v28 v29 v30 v31 v32 v33 v34 t3 t4) (hn : ¬ On l 5) {x : Value} (hx : x = .pointer (some ⟨G, 0, none⟩)) : DInv G n0 nE Q0 A' len' cap' w4 e4 (l.setIfInBounds 5 true) W v23 v24 v25 v26 v27 x v29 v30 v31 v32 v33 v34 t3 t4 := by
  exact {
    sz := by simpa using h.sz
    f0 := fun y => h.f0 (y.set (by decide))
    f1 := fun y => h.f1 (y.set (by decide))
    f2 := fun y => h.f2 (y.set (by decide))
    f3 := fun y => h.f3 (y.set (by decide))
    f4 := fun y => h.f4 (y.set (by decide))
    f5 := fun _ => hx
    f6 := fun y => h.f6 (y.set (by decide))
    f7 := fun y => h.f7 (y.set (by decide))
    f8 := fun y => h.f8 (y.set (by decide))
    f9 := fun y => h.f9 (y.set (by decide))
    f10 := fun y => h.f10 (y.set (by decide))
    f11 := fun y => h.f11 (y.set (by decide))
    f12 := fun y => h.f12 (y.set (by decide))
    f13 := fun y => h.f13 (y.set (by decide))
    f14 := fun y => h.f14 (y.set (by decide))
    g12 := fun y => h.g12 (fun z => y z.more)
    k11 := fun y => ⟨(h.k11 (y.set (by decide))).1.more, (h.k11 (y.set (by decide))).2.1.more, (h.k11 (y.set (by decide))).2.2.more⟩
    k13 := fun y => (h.k13 (y.set (by decide))).more
    k14 := fun y => (h.k14 (y.set (by decide))).more
    k7 := fun y => (h.k7 (y.set (by decide))).more
    k10 := fun y => (h.k10 (y.set (by decide))).more
    k12 := fun y => (h.k12 (y.set (by decide))).more
    eb := h.eb
    rd := fun n12 => by obtain ⟨q, h1, h2, h3, h4⟩ := h.rd (fun z => n12 z.more); exact ⟨q, h1, fun y => h2 (fun z => y z.more), fun y => h3 (fun z => y z.more), fun y => h4 (fun z => y z.more)⟩
    bl := h.bl
    os := h.os
    tape := h.tape
    output := h.output
    zz := h.zz }
set_option linter.unusedVariables false in
theorem DInv.on6 (h : DInv G n0 nE Q0 A' len' cap' w4 e4 l W v23 v24 v25 v26 v27 v28 v29 v30 v31 v32 v33 v34 t3 t4) (hn : ¬ On l 6) {x : Value} (hx : Bs W w4.heap.size x [.int .i64 2, .int .i64 1000] 3) : DInv G n0 nE Q0 A' len' cap' w4 e4 (l.setIfInBounds 6 true) W v23 v24 v25 v26 v27 v28 x v30 v31 v32 v33 v34 t3 t4 := by
  exact {
    sz := by simpa using h.sz
    f0 := fun y => h.f0 (y.set (by decide))
    f1 := fun y => h.f1 (y.set (by decide))
    f2 := fun y => h.f2 (y.set (by decide))
    f3 := fun y => h.f3 (y.set (by decide))
    f4 := fun y => h.f4 (y.set (by decide))
    f5 := fun y => h.f5 (y.set (by decide))
    f6 := fun _ => hx
    f7 := fun y => h.f7 (y.set (by decide))
    f8 := fun y => h.f8 (y.set (by decide))
    f9 := fun y => h.f9 (y.set (by decide))
    f10 := fun y => h.f10 (y.set (by decide))
    f11 := fun y => h.f11 (y.set (by decide))
    f12 := fun y => h.f12 (y.set (by decide))
    f13 := fun y => h.f13 (y.set (by decide))
    f14 := fun y => h.f14 (y.set (by decide))
    g12 := fun y => h.g12 (fun z => y z.more)
    k11 := fun y => ⟨(h.k11 (y.set (by decide))).1.more, (h.k11 (y.set (by decide))).2.1.more, (h.k11 (y.set (by decide))).2.2.more⟩
    k13 := fun y => (h.k13 (y.set (by decide))).more
    k14 := fun y => (h.k14 (y.set (by decide))).more
    k7 := fun y => (h.k7 (y.set (by decide))).more
    k10 := fun y => (h.k10 (y.set (by decide))).more
    k12 := fun y => (h.k12 (y.set (by decide))).more
    eb := h.eb
    rd := fun n12 => by obtain ⟨q, h1, h2, h3, h4⟩ := h.rd (fun z => n12 z.more); exact ⟨q, h1, fun y => h2 (fun z => y z.more), fun y => h3 (fun z => y z.more), fun y => h4 (fun z => y z.more)⟩
    bl := h.bl
    os := h.os
    tape := h.tape
    output := h.output
    zz := h.zz }
set_option linter.unusedVariables false in
theorem DInv.on7 (h : DInv G n0 nE Q0 A' len' cap' w4 e4 l W v23 v24 v25 v26 v27 v28 v29 v30 v31 v32 v33 v34 t3 t4) (hn : ¬ On l 7) (d4 : On l 4) (hrd : ¬ On (l.setIfInBounds 7 true) 12 → ∃ q, Rd W G G A' len' cap' q ∧ (¬ On (l.setIfInBounds 7 true) 4 → q ≤ Q0) ∧ (¬ On (l.setIfInBounds 7 true) 7 → q ≤ Q0 + 1) ∧ (¬ On (l.setIfInBounds 7 true) 10 → q ≤ Q0 + 2)) {x : Value} (hx : IsI x) : DInv G n0 nE Q0 A' len' cap' w4 e4 (l.setIfInBounds 7 true) W v23 v24 v25 v26 v27 v28 v29 x v31 v32 v33 v34 t3 t4 := by
  exact {
    sz := by simpa using h.sz
    f0 := fun y => h.f0 (y.set (by decide))
    f1 := fun y => h.f1 (y.set (by decide))
    f2 := fun y => h.f2 (y.set (by decide))
    f3 := fun y => h.f3 (y.set (by decide))
    f4 := fun y => h.f4 (y.set (by decide))
    f5 := fun y => h.f5 (y.set (by decide))
    f6 := fun y => h.f6 (y.set (by decide))
    f7 := fun _ => hx
    f8 := fun y => h.f8 (y.set (by decide))
    f9 := fun y => h.f9 (y.set (by decide))
    f10 := fun y => h.f10 (y.set (by decide))
    f11 := fun y => absurd ((h.k11 (y.set (by decide))).2.1) hn
    f12 := fun y => h.f12 (y.set (by decide))
    f13 := fun y => h.f13 (y.set (by decide))
    f14 := fun y => h.f14 (y.set (by decide))
    g12 := fun y => h.g12 (fun z => y z.more)
    k11 := fun y => ⟨(h.k11 (y.set (by decide))).1.more, (h.k11 (y.set (by decide))).2.1.more, (h.k11 (y.set (by decide))).2.2.more⟩
    k13 := fun y => (h.k13 (y.set (by decide))).more
    k14 := fun y => (h.k14 (y.set (by decide))).more
    k7 := fun y => d4.more
    k10 := fun y => (h.k10 (y.set (by decide))).more
    k12 := fun y => (h.k12 (y.set (by decide))).more
    eb := h.eb
    rd := hrd
    bl := h.bl
    os := h.os
    tape := h.tape
    output := h.output
    zz := h.zz }
set_option linter.unusedVariables false in
theorem DInv.on8 (h : DInv G n0 nE Q0 A' len' cap' w4 e4 l W v23 v24 v25 v26 v27 v28 v29 v30 v31 v32 v33 v34 t3 t4) (hn : ¬ On l 8) {x : Value} (hx : x = .pointer (some ⟨G, 0, none⟩)) : DInv G n0 nE Q0 A' len' cap' w4 e4 (l.setIfInBounds 8 true) W v23 v24 v25 v26 v27 v28 v29 v30 x v32 v33 v34 t3 t4 := by
  exact {
    sz := by simpa using h.sz
    f0 := fun y => h.f0 (y.set (by decide))
    f1 := fun y => h.f1 (y.set (by decide))
    f2 := fun y => h.f2 (y.set (by decide))
    f3 := fun y => h.f3 (y.set (by decide))
    f4 := fun y => h.f4 (y.set (by decide))
    f5 := fun y => h.f5 (y.set (by decide))
    f6 := fun y => h.f6 (y.set (by decide))
    f7 := fun y => h.f7 (y.set (by decide))
    f8 := fun _ => hx
    f9 := fun y => h.f9 (y.set (by decide))
    f10 := fun y => h.f10 (y.set (by decide))
    f11 := fun y => h.f11 (y.set (by decide))
    f12 := fun y => h.f12 (y.set (by decide))
    f13 := fun y => h.f13 (y.set (by decide))
    f14 := fun y => h.f14 (y.set (by decide))
    g12 := fun y => h.g12 (fun z => y z.more)
    k11 := fun y => ⟨(h.k11 (y.set (by decide))).1.more, (h.k11 (y.set (by decide))).2.1.more, (h.k11 (y.set (by decide))).2.2.more⟩
    k13 := fun y => (h.k13 (y.set (by decide))).more
    k14 := fun y => (h.k14 (y.set (by decide))).more
    k7 := fun y => (h.k7 (y.set (by decide))).more
    k10 := fun y => (h.k10 (y.set (by decide))).more
    k12 := fun y => (h.k12 (y.set (by decide))).more
    eb := h.eb
    rd := fun n12 => by obtain ⟨q, h1, h2, h3, h4⟩ := h.rd (fun z => n12 z.more); exact ⟨q, h1, fun y => h2 (fun z => y z.more), fun y => h3 (fun z => y z.more), fun y => h4 (fun z => y z.more)⟩
    bl := h.bl
    os := h.os
    tape := h.tape
    output := h.output
    zz := h.zz }
set_option linter.unusedVariables false in
theorem DInv.on9 (h : DInv G n0 nE Q0 A' len' cap' w4 e4 l W v23 v24 v25 v26 v27 v28 v29 v30 v31 v32 v33 v34 t3 t4) (hn : ¬ On l 9) {x : Value} (hx : Bs W w4.heap.size x [.int .i64 1, .int .i64 4, .int .i64 9999999] 3) : DInv G n0 nE Q0 A' len' cap' w4 e4 (l.setIfInBounds 9 true) W v23 v24 v25 v26 v27 v28 v29 v30 v31 x v33 v34 t3 t4 := by
  exact {
    sz := by simpa using h.sz
    f0 := fun y => h.f0 (y.set (by decide))
    f1 := fun y => h.f1 (y.set (by decide))
    f2 := fun y => h.f2 (y.set (by decide))
    f3 := fun y => h.f3 (y.set (by decide))
    f4 := fun y => h.f4 (y.set (by decide))
    f5 := fun y => h.f5 (y.set (by decide))
    f6 := fun y => h.f6 (y.set (by decide))
    f7 := fun y => h.f7 (y.set (by decide))
    f8 := fun y => h.f8 (y.set (by decide))
    f9 := fun _ => hx
    f10 := fun y => h.f10 (y.set (by decide))
    f11 := fun y => h.f11 (y.set (by decide))
    f12 := fun y => h.f12 (y.set (by decide))
    f13 := fun y => h.f13 (y.set (by decide))
    f14 := fun y => h.f14 (y.set (by decide))
    g12 := fun y => h.g12 (fun z => y z.more)
    k11 := fun y => ⟨(h.k11 (y.set (by decide))).1.more, (h.k11 (y.set (by decide))).2.1.more, (h.k11 (y.set (by decide))).2.2.more⟩
    k13 := fun y => (h.k13 (y.set (by decide))).more
    k14 := fun y => (h.k14 (y.set (by decide))).more
    k7 := fun y => (h.k7 (y.set (by decide))).more
    k10 := fun y => (h.k10 (y.set (by decide))).more
    k12 := fun y => (h.k12 (y.set (by decide))).more
    eb := h.eb
    rd := fun n12 => by obtain ⟨q, h1, h2, h3, h4⟩ := h.rd (fun z => n12 z.more); exact ⟨q, h1, fun y => h2 (fun z => y z.more), fun y => h3 (fun z => y z.more), fun y => h4 (fun z => y z.more)⟩
    bl := h.bl
    os := h.os
    tape := h.tape
    output := h.output
    zz := h.zz }
set_option linter.unusedVariables false in
theorem DInv.on10 (h : DInv G n0 nE Q0 A' len' cap' w4 e4 l W v23 v24 v25 v26 v27 v28 v29 v30 v31 v32 v33 v34 t3 t4) (hn : ¬ On l 10) (d7 : On l 7) (hrd : ¬ On (l.setIfInBounds 10 true) 12 → ∃ q, Rd W G G A' len' cap' q ∧ (¬ On (l.setIfInBounds 10 true) 4 → q ≤ Q0) ∧ (¬ On (l.setIfInBounds 10 true) 7 → q ≤ Q0 + 1) ∧ (¬ On (l.setIfInBounds 10 true) 10 → q ≤ Q0 + 2)) {x : Value} (hx : IsI x) : DInv G n0 nE Q0 A' len' cap' w4 e4 (l.setIfInBounds 10 true) W v23 v24 v25 v26 v27 v28 v29 v30 v31 v32 x v34 t3 t4 := by
  exact {
    sz := by simpa using h.sz
    f0 := fun y => h.f0 (y.set (by decide))
    f1 := fun y => h.f1 (y.set (by decide))
    f2 := fun y => h.f2 (y.set (by decide))
    f3 := fun y => h.f3 (y.set (by decide))
    f4 := fun y => h.f4 (y.set (by decide))
    f5 := fun y => h.f5 (y.set (by decide))
    f6 := fun y => h.f6 (y.set (by decide))
    f7 := fun y => h.f7 (y.set (by decide))
    f8 := fun y => h.f8 (y.set (by decide))
    f9 := fun y => h.f9 (y.set (by decide))
    f10 := fun _ => hx
    f11 := fun y => absurd ((h.k11 (y.set (by decide))).2.2) hn
    f12 := fun y => h.f12 (y.set (by decide))
    f13 := fun y => h.f13 (y.set (by decide))
    f14 := fun y => h.f14 (y.set (by decide))
    g12 := fun y => h.g12 (fun z => y z.more)
    k11 := fun y => ⟨(h.k11 (y.set (by decide))).1.more, (h.k11 (y.set (by decide))).2.1.more, (h.k11 (y.set (by decide))).2.2.more⟩
    k13 := fun y => (h.k13 (y.set (by decide))).more
    k14 := fun y => (h.k14 (y.set (by decide))).more
    k7 := fun y => (h.k7 (y.set (by decide))).more
    k10 := fun y => d7.more
    k12 := fun y => (h.k12 (y.set (by decide))).more
    eb := h.eb
    rd := hrd
    bl := h.bl
    os := h.os
    tape := h.tape
    output := h.output
    zz := h.zz }
set_option linter.unusedVariables false in
theorem DInv.on11 (h : DInv G n0 nE Q0 A' len' cap' w4 e4 l W v23 v24 v25 v26 v27 v28 v29 v30 v31 v32 v33 v34 t3 t4) (hn : ¬ On l 11) (d4 : On l 4) (d7 : On l 7) (d10 : On l 10) {x : Value} (hx : Bs W w4.heap.size x [.int .i64 9, v27, v30, v33] 3) : DInv G n0 nE Q0 A' len' cap' w4 e4 (l.setIfInBounds 11 true) W v23 v24 v25 v26 v27 v28 v29 v30 v31 v32 v33 x t3 t4 := by
  exact {
    sz := by simpa using h.sz
    f0 := fun y => h.f0 (y.set (by decide))
    f1 := fun y => h.f1 (y.set (by decide))
    f2 := fun y => h.f2 (y.set (by decide))
    f3 := fun y => h.f3 (y.set (by decide))
    f4 := fun y => h.f4 (y.set (by decide))
    f5 := fun y => h.f5 (y.set (by decide))
    f6 := fun y => h.f6 (y.set (by decide))
    f7 := fun y => h.f7 (y.set (by decide))
    f8 := fun y => h.f8 (y.set (by decide))
    f9 := fun y => h.f9 (y.set (by decide))
    f10 := fun y => h.f10 (y.set (by decide))
    f11 := fun _ => hx
    f12 := fun y => h.f12 (y.set (by decide))
    f13 := fun y => h.f13 (y.set (by decide))
    f14 := fun y => absurd (h.k14 (y.set (by decide))) hn
    g12 := fun y => h.g12 (fun z => y z.more)
    k11 := fun y => ⟨d4.more, d7.more, d10.more⟩
    k13 := fun y => (h.k13 (y.set (by decide))).more
    k14 := fun y => (h.k14 (y.set (by decide))).more
    k7 := fun y => (h.k7 (y.set (by decide))).more
    k10 := fun y => (h.k10 (y.set (by decide))).more
    k12 := fun y => (h.k12 (y.set (by decide))).more
    eb := h.eb
    rd := fun n12 => by obtain ⟨q, h1, h2, h3, h4⟩ := h.rd (fun z => n12 z.more); exact ⟨q, h1, fun y => h2 (fun z => y z.more), fun y => h3 (fun z => y z.more), fun y => h4 (fun z => y z.more)⟩
    bl := h.bl
    os := h.os
    tape := h.tape
    output := h.output
    zz := h.zz }
set_option linter.unusedVariables false in
theorem DInv.on13 (h : DInv G n0 nE Q0 A' len' cap' w4 e4 l W v23 v24 v25 v26 v27 v28 v29 v30 v31 v32 v33 v34 t3 t4) (hn : ¬ On l 13) (d1 : On l 1) {x : Value} (hx : x = v24) : DInv G n0 nE Q0 A' len' cap' w4 e4 (l.setIfInBounds 13 true) W v23 v24 v25 v26 v27 v28 v29 v30 v31 v32 v33 v34 x t4 := by
  exact {
    sz := by simpa using h.sz
    f0 := fun y => h.f0 (y.set (by decide))
    f1 := fun y => h.f1 (y.set (by decide))
    f2 := fun y => h.f2 (y.set (by decide))
    f3 := fun y => h.f3 (y.set (by decide))
    f4 := fun y => h.f4 (y.set (by decide))
    f5 := fun y => h.f5 (y.set (by decide))
    f6 := fun y => h.f6 (y.set (by decide))
    f7 := fun y => h.f7 (y.set (by decide))
    f8 := fun y => h.f8 (y.set (by decide))
    f9 := fun y => h.f9 (y.set (by decide))
    f10 := fun y => h.f10 (y.set (by decide))
    f11 := fun y => h.f11 (y.set (by decide))
    f12 := fun y => h.f12 (y.set (by decide))
    f13 := fun _ => hx
    f14 := fun y => h.f14 (y.set (by decide))
    g12 := fun y => h.g12 (fun z => y z.more)
    k11 := fun y => ⟨(h.k11 (y.set (by decide))).1.more, (h.k11 (y.set (by decide))).2.1.more, (h.k11 (y.set (by decide))).2.2.more⟩
    k13 := fun y => d1.more
    k14 := fun y => (h.k14 (y.set (by decide))).more
    k7 := fun y => (h.k7 (y.set (by decide))).more
    k10 := fun y => (h.k10 (y.set (by decide))).more
    k12 := fun y => (h.k12 (y.set (by decide))).more
    eb := h.eb
    rd := fun n12 => by obtain ⟨q, h1, h2, h3, h4⟩ := h.rd (fun z => n12 z.more); exact ⟨q, h1, fun y => h2 (fun z => y z.more), fun y => h3 (fun z => y z.more), fun y => h4 (fun z => y z.more)⟩
    bl := h.bl
    os := h.os
    tape := h.tape
    output := h.output
    zz := h.zz }
set_option linter.unusedVariables false in
theorem DInv.on14 (h : DInv G n0 nE Q0 A' len' cap' w4 e4 l W v23 v24 v25 v26 v27 v28 v29 v30 v31 v32 v33 v34 t3 t4) (hn : ¬ On l 14) (d11 : On l 11) {x : Value} (hx : x = v34) : DInv G n0 nE Q0 A' len' cap' w4 e4 (l.setIfInBounds 14 true) W v23 v24 v25 v26 v27 v28 v29 v30 v31 v32 v33 v34 t3 x := by
  exact {
    sz := by simpa using h.sz
    f0 := fun y => h.f0 (y.set (by decide))
    f1 := fun y => h.f1 (y.set (by decide))
    f2 := fun y => h.f2 (y.set (by decide))
    f3 := fun y => h.f3 (y.set (by decide))
    f4 := fun y => h.f4 (y.set (by decide))
    f5 := fun y => h.f5 (y.set (by decide))
    f6 := fun y => h.f6 (y.set (by decide))
    f7 := fun y => h.f7 (y.set (by decide))
    f8 := fun y => h.f8 (y.set (by decide))
    f9 := fun y => h.f9 (y.set (by decide))
    f10 := fun y => h.f10 (y.set (by decide))
    f11 := fun y => h.f11 (y.set (by decide))
    f12 := fun y => h.f12 (y.set (by decide))
    f13 := fun y => h.f13 (y.set (by decide))
    f14 := fun _ => hx
    g12 := fun y => h.g12 (fun z => y z.more)
    k11 := fun y => ⟨(h.k11 (y.set (by decide))).1.more, (h.k11 (y.set (by decide))).2.1.more, (h.k11 (y.set (by decide))).2.2.more⟩
    k13 := fun y => (h.k13 (y.set (by decide))).more
    k14 := fun y => d11.more
    k7 := fun y => (h.k7 (y.set (by decide))).more
    k10 := fun y => (h.k10 (y.set (by decide))).more
    k12 := fun y => (h.k12 (y.set (by decide))).more
    eb := h.eb
    rd := fun n12 => by obtain ⟨q, h1, h2, h3, h4⟩ := h.rd (fun z => n12 z.more); exact ⟨q, h1, fun y => h2 (fun z => y z.more), fun y => h3 (fun z => y z.more), fun y => h4 (fun z => y z.more)⟩
    bl := h.bl
    os := h.os
    tape := h.tape
    output := h.output
    zz := h.zz }
set_option linter.unusedVariables false in
theorem DInv.on12 (h : DInv G n0 nE Q0 A' len' cap' w4 e4 l W v23 v24 v25 v26 v27 v28 v29 v30 v31 v32 v33 v34 t3 t4) (hne : nE ≠ n0) (hnG : n0 ≠ G) (hn0 : n0 < w4.heap.size) (hsame : ∀ k, k ≠ n0 → W'.heap[k]? = W.heap[k]?) (hB : Blk W' n0 e4) (hz : W'.heap.size = W.heap.size) (hos : W'.os = W.os ∧ W'.tape = W.tape ∧ W'.output = W.output) (d10 : On l 10) : DInv G n0 nE Q0 A' len' cap' w4 e4 (l.setIfInBounds 12 true) W' v23 v24 v25 v26 v27 v28 v29 v30 v31 v32 v33 v34 t3 t4 := by
  have hb : ∀ k, w4.heap.size ≤ k → k < W.heap.size → W'.heap[k]? = W.heap[k]? := fun k h1 _ => hsame k (by omega)
  exact {
    sz := by simpa using h.sz
    f0 := fun y => h.f0 (y.set (by decide))
    f1 := fun y => (h.f1 (y.set (by decide))).keep hb
    f2 := fun y => h.f2 (y.set (by decide))
    f3 := fun y => (h.f3 (y.set (by decide))).keep hb
    f4 := fun y => h.f4 (y.set (by decide))
    f5 := fun y => h.f5 (y.set (by decide))
    f6 := fun y => (h.f6 (y.set (by decide))).keep hb
    f7 := fun y => h.f7 (y.set (by decide))
    f8 := fun y => h.f8 (y.set (by decide))
    f9 := fun y => (h.f9 (y.set (by decide))).keep hb
    f10 := fun y => h.f10 (y.set (by decide))
    f11 := fun y => (h.f11 (y.set (by decide))).keep hb
    f12 := fun _ => hB
    f13 := fun y => h.f13 (y.set (by decide))
    f14 := fun y => h.f14 (y.set (by decide))
    g12 := fun y => absurd (on_self (by have := h.sz; omega)) y
    k11 := fun y => ⟨(h.k11 (y.set (by decide))).1.more, (h.k11 (y.set (by decide))).2.1.more, (h.k11 (y.set (by decide))).2.2.more⟩
    k13 := fun y => (h.k13 (y.set (by decide))).more
    k14 := fun y => (h.k14 (y.set (by decide))).more
    k7 := fun y => (h.k7 (y.set (by decide))).more
    k10 := fun y => (h.k10 (y.set (by decide))).more
    eb := (hsame _ hne).trans h.eb
    k12 := fun _ => d10.more
    rd := fun n12 => absurd (on_self (by have := h.sz; omega)) n12
    bl := fun k h1 h2 h3 => (hsame k h3).trans (h.bl k h1 h2 h3)
    os := hos.1.trans h.os
    tape := hos.2.1.trans h.tape
    output := hos.2.2.trans h.output
    zz := by have := h.zz; omega }
end
set_option maxRecDepth 100000 in
set_option maxHeartbeats 40000000 in
theorem drawExprOf_any (A : Option Addr) (len cap : Nat) (w : World) (h : InCode w A len cap) : Calls Tryz.prog 20 #[.slice A len cap] w (DrawnO w) := by
  obtain ⟨W0, hW0⟩ : ∃ W0, W0 = w.alloc (.cells #[.int .i64 0, .int .i64 0, .string { data := #[] }, .slice none 0 0] 31) := ⟨_, rfl⟩
  have hb0 : Below w.heap.size w W0 := by rw [hW0]; exact (Below.refl _ w).alloc (Nat.le_refl _) _
  have hs0 : w.heap.size < W0.heap.size := by rw [hW0]; simp
  have hB0 : Blk W0 w.heap.size #[.int .i64 0, .int .i64 0, .string { data := #[] }, .slice none 0 0] := by rw [hW0]; exact World.alloc_heap_new w _
  have HOP := Lib.hid (open_any A len cap W0 (h.below hb0))
  clear h
  go_enter Tryz.func20, Tryz.ntmps20
  go_wp2_with fail
  rw [← hW0]
  refine HOP.out.mono ?_
  rintro r w1 ⟨A', len', cap', rfl, hrd1, hb1⟩
  obtain ⟨G, hG⟩ : ∃ G, W0.heap.size = G := ⟨_, rfl⟩
  rw [hG] at hrd1 hs0
  have hz1 : G < w1.heap.size := hrd1.lt
  have HI := Lib.hid (l4Bent_any G G A' len' cap' 0 w1 hrd1 (by omega))
  have hB1 : Blk w1 w.heap.size #[.int .i64 0, .int .i64 0, .string { data := #[] }, .slice none 0 0] := (hb1.block _ hB0.lt).trans hB0
  have hbl1 := hb0.trans (hb1.mono hb0.size)
  rw [hG]
  clear HOP hrd1 hW0 hB0 hb0 hb1 hG
  go_wp2_with fail
  refine HI.out.mono ?_
  rintro r w2 ⟨e, Ae, c, rfl, hc, hO2, hS, hwt, q2, hq1, hq2, hrd2, hgr2⟩
  have hB2 := blk_grown hB1 hgr2 (by omega)
  have hz2 := hgr2.size
  have hbl2 := hbl1.trans (grown_below hgr2 (Nat.le_of_lt hs0) (by omega))
  have HS := Lib.hid hS
  obtain ⟨W3, hW3⟩ : ∃ W3, W3 = w2.alloc (.cells #[.int .i64 e.kind, .int .i64 e.n, .string e.s, .slice Ae e.kids.length c] 31) := ⟨_, rfl⟩
  have hb3 : Below w2.heap.size w2 W3 := by rw [hW3]; exact (Below.refl _ w2).alloc (Nat.le_refl _) _
  have hs3 : w2.heap.size < W3.heap.size := by rw [hW3]; simp
  have hE3 : Blk W3 w2.heap.size #[.int .i64 e.kind, .int .i64 e.n, .string e.s, .slice Ae e.kids.length c] := by rw [hW3]; exact World.alloc_heap_new w2 _
  have hrd3 := below_rd hrd2 hb3
  have hB3 : Blk W3 w.heap.size #[.int .i64 0, .int .i64 0, .string { data := #[] }, .slice none 0 0] := (hb3.block _ hB2.lt).trans hB2
  have hO3 := own_keep _ _ _ _ (fun k h1 h2 => hb3.block k h2) hO2
  have hbl3 := hbl2.trans (hb3.mono hbl2.size)
  clear HI hB1 hgr2 hrd2 hB2 hO2 hS hbl1 hbl2
  go_wp2_with fail
  rw [← hW3]
  refine (pick_any G G A' len' cap' q2 8 _ hrd3 (by omega) (by omega) (by omega)).mono ?_
  rintro r w4 ⟨v, hv, rfl, q4, hq3, hq4, hrd4, hgr4⟩
  have hB4 := blk_grown hB3 hgr4 (by omega)
  have hE4 := blk_grown hE3 hgr4 (by omega)
  have hO4 := own_keep _ _ _ _ (fun k h1 h2 => hgr4.block k (by omega) (fun e => by injection e with e; omega)) hO3
  have hz4 := hgr4.size
  have hbl4 := hbl3.trans (grown_below hgr4 (Nat.le_of_lt hs0) (by omega))
  have x0 := hB4.cell 0
  have x1 := hB4.cell 1
  have x2 := hB4.cell 2
  have x3 := hB4.cell 3
  have f0 := hB4.frozen 0
  have f1 := hB4.frozen 1
  have f2 := hB4.frozen 2
  have f3 := hB4.frozen 3
  have y0 := hE4.cell 0
  have y1 := hE4.cell 1
  have y2 := hE4.cell 2
  have y3 := hE4.cell 3
  simp only [List.getElem?_toArray, List.getElem?_cons_zero, List.getElem?_cons_succ] at x0 x1 x2 x3 y0 y1 y2 y3
  have hlB := hB4.lt
  have hlE := hE4.lt
  have HB4 := Lib.hid hB4
  have HE4 := Lib.hid hE4
  have HO4 := Lib.hid hO4
  have HRD := Lib.hid hrd4
  clear hrd3 hB3 hE3 hO3 hgr4 hbl3 hb3 hW3 hB4 hE4 hO4 hrd4
  have FIN0 := Lib.hid (show ∀ (wn : World) (bN bT : Nat) (ss : List ByteArray) (zs : List Int), Behind5 w.heap.size w4 wn → wn.heap[bN]? = some (.cells (ss.map strV).toArray 9) → wn.heap[bT]? = some (.cells (zs.map intV).toArray 3) → ss.length ≤ 4 → zs.length ≤ 4 → (∀ z ∈ zs, -10000000 ≤ z ∧ z ≤ 10000000) → DrawnO w (.returned (.tuple #[.agg #[.int .i64 e.kind, .int .i64 e.n, .string e.s, .slice Ae e.kids.length c], .slice (some ⟨bN, 0, none⟩) ss.length ss.length, .slice (some ⟨bT, 0, none⟩) zs.length zs.length])) wn from fun wn bN bT ss zs h4 h5 h6 h7 h8 h9 => by
    obtain ⟨k1, k2, k3, k4, k5⟩ := h4
    refine ⟨e, Ae, c, some ⟨bN, 0, none⟩, some ⟨bT, 0, none⟩, ss.length, zs.length, ss, zs, rfl, hc, ?_, HS.out, hwt, sl_of_blk h5, sl_of_blkI h6, h7, h8, h9, hbl4.trans ⟨k2, k3, k4, k5, fun k hk => k1 k (by omega) (by omega)⟩⟩
    exact own_wide (own_keep _ _ _ _ (fun k h1 h2' => k1 k (by omega) (by omega)) HO4.out) (by omega) (by omega))
  by_cases hv0 : v = 0
  · subst hv0
    go_wp2_with fail
    refine bodyPost_ret (v := .tuple #[.agg #[.int .i64 e.kind, .int .i64 e.n, .string e.s, .slice Ae e.kids.length c], .slice (some ⟨w4.heap.size, 0, none⟩) 1 1, .slice (some ⟨w4.heap.size + 1, 0, none⟩) 1 1]) ?res rfl ?fin
    case res =>
      have hBn : Blk ((((((w4.setCell ⟨w.heap.size, 0, none⟩ (.int .i64 e.kind)).setCell ⟨w.heap.size, 1, none⟩ (.int .i64 e.n)).setCell ⟨w.heap.size, 2, none⟩ (.string e.s)).setCell ⟨w.heap.size, 3, none⟩ (.slice Ae e.kids.length c)).alloc (.cells #[.string { data := #[120] }] 9)).alloc (.cells #[.int .i64 3] 3)) w.heap.size #[.int .i64 e.kind, .int .i64 e.n, .string e.s, .slice Ae e.kids.length c] := blk2 (.int .i64 e.kind) (.int .i64 e.n) (.string e.s) (.slice Ae e.kids.length c) _ _ HB4.out
      have r0 := hBn.cell 0
      have r1 := hBn.cell 1
      have r2 := hBn.cell 2
      have r3 := hBn.cell 3
      simp only [List.getElem?_toArray, List.getElem?_cons_zero, List.getElem?_cons_succ] at r0 r1 r2 r3
      simp [results, Tryz.results20, go_sem, r0, r1, r2, r3]
    case fin => exact FIN0.out ((((((w4.setCell ⟨w.heap.size, 0, none⟩ (.int .i64 e.kind)).setCell ⟨w.heap.size, 1, none⟩ (.int .i64 e.n)).setCell ⟨w.heap.size, 2, none⟩ (.string e.s)).setCell ⟨w.heap.size, 3, none⟩ (.slice Ae e.kids.length c)).alloc (.cells #[.string { data := #[120] }] 9)).alloc (.cells #[.int .i64 3] 3)) w4.heap.size (w4.heap.size + 1) [⟨#[120]⟩] [3] (behind2 w4 w.heap.size (.int .i64 e.kind) (.int .i64 e.n) (.string e.s) (.slice Ae e.kids.length c) _ _) (at2a w4 w.heap.size (.int .i64 e.kind) (.int .i64 e.n) (.string e.s) (.slice Ae e.kids.length c) _ _) (at2b w4 w.heap.size (.int .i64 e.kind) (.int .i64 e.n) (.string e.s) (.slice Ae e.kids.length c) _ _) (by simp) (by simp) (by simp)
  have p0 : ((v : Int) == 0) = false := by rw [beq_eq_false_iff_ne]; omega
  by_cases hv1 : v = 1
  · subst hv1
    go_wp2_with fail
    refine bodyPost_ret (v := .tuple #[.agg #[.int .i64 e.kind, .int .i64 e.n, .string e.s, .slice Ae e.kids.length c], .slice (some ⟨w4.heap.size, 0, none⟩) 2 2, .slice (some ⟨w4.heap.size + 1, 0, none⟩) 1 1]) ?res rfl ?fin
    case res =>
      have hBn : Blk ((((((w4.setCell ⟨w.heap.size, 0, none⟩ (.int .i64 e.kind)).setCell ⟨w.heap.size, 1, none⟩ (.int .i64 e.n)).setCell ⟨w.heap.size, 2, none⟩ (.string e.s)).setCell ⟨w.heap.size, 3, none⟩ (.slice Ae e.kids.length c)).alloc (.cells #[.string { data := #[120] }, .string { data := #[121] }] 9)).alloc (.cells #[.int .i64 3] 3)) w.heap.size #[.int .i64 e.kind, .int .i64 e.n, .string e.s, .slice Ae e.kids.length c] := blk2 (.int .i64 e.kind) (.int .i64 e.n) (.string e.s) (.slice Ae e.kids.length c) _ _ HB4.out
      have r0 := hBn.cell 0
      have r1 := hBn.cell 1
      have r2 := hBn.cell 2
      have r3 := hBn.cell 3
      simp only [List.getElem?_toArray, List.getElem?_cons_zero, List.getElem?_cons_succ] at r0 r1 r2 r3
      simp [results, Tryz.results20, go_sem, r0, r1, r2, r3]
    case fin => exact FIN0.out ((((((w4.setCell ⟨w.heap.size, 0, none⟩ (.int .i64 e.kind)).setCell ⟨w.heap.size, 1, none⟩ (.int .i64 e.n)).setCell ⟨w.heap.size, 2, none⟩ (.string e.s)).setCell ⟨w.heap.size, 3, none⟩ (.slice Ae e.kids.length c)).alloc (.cells #[.string { data := #[120] }, .string { data := #[121] }] 9)).alloc (.cells #[.int .i64 3] 3)) w4.heap.size (w4.heap.size + 1) [⟨#[120]⟩, ⟨#[121]⟩] [3] (behind2 w4 w.heap.size (.int .i64 e.kind) (.int .i64 e.n) (.string e.s) (.slice Ae e.kids.length c) _ _) (at2a w4 w.heap.size (.int .i64 e.kind) (.int .i64 e.n) (.string e.s) (.slice Ae e.kids.length c) _ _) (at2b w4 w.heap.size (.int .i64 e.kind) (.int .i64 e.n) (.string e.s) (.slice Ae e.kids.length c) _ _) (by simp) (by simp) (by simp)
  have p1 : ((v : Int) == 1) = false := by rw [beq_eq_false_iff_ne]; omega
  go_wp2_with fail
  have hEG : w2.heap.size ≠ G := by omega
  have hBG : w.heap.size ≠ G := by omega
  have hEB : w2.heap.size ≠ w.heap.size := by omega
  have hG4 : G < w4.heap.size := HRD.out.lt
  have hq4' : q4 ≤ 1000 := by omega
  clear x0 x1 x2 x3 f0 f1 f2 f3 y0 y1 y2 y3
  refine wp_region_inv (by kernel_rfl) (fun l a W => ∃ v23 v24 v25 v26 v27 v28 v29 v30 v31 v32 v33 v34 t3 t4, a = { tmps := #[.slice A len cap, undef, .pointer (some ⟨w.heap.size, 0, none⟩), t3, t4, .pointer (some ⟨G, 0, none⟩), .pointer (some ⟨w2.heap.size, 0, none⟩), .slice A len cap, .pointer (some ⟨G, 0, none⟩), .pointer (some ⟨G, 0, none⟩), .agg #[.int .i64 e.kind, .int .i64 e.n, .string e.s, .slice Ae e.kids.length c], .pointer (some ⟨G, 0, none⟩), .int .i64 v, .bool false, .bool false, undef, undef, undef, .bool false, .bool false, undef, undef, undef, v23, v24, v25, v26, v27, v28, v29, v30, v31, v32, v33, v34], defers := [] } ∧ DInv G w.heap.size w2.heap.size q4 A' len' cap' w4 #[.int .i64 e.kind, .int .i64 e.n, .string e.s, .slice Ae e.kids.length c] l W v23 v24 v25 v26 v27 v28 v29 v30 v31 v32 v33 v34 t3 t4) ?start ?steps ?low ?fin
  case start =>
    exact ⟨undef, undef, undef, undef, undef, undef, undef, undef, undef, undef, undef, undef, .slice none 0 0, .slice none 0 0, rfl, {
      sz := by simp
      f0 := fun h => absurd h (not_on_rep _ _)
      f1 := fun h => absurd h (not_on_rep _ _)
      f2 := fun h => absurd h (not_on_rep _ _)
      f3 := fun h => absurd h (not_on_rep _ _)
      f4 := fun h => absurd h (not_on_rep _ _)
      f5 := fun h => absurd h (not_on_rep _ _)
      f6 := fun h => absurd h (not_on_rep _ _)
      f7 := fun h => absurd h (not_on_rep _ _)
      f8 := fun h => absurd h (not_on_rep _ _)
      f9 := fun h => absurd h (not_on_rep _ _)
      f10 := fun h => absurd h (not_on_rep _ _)
      f11 := fun h => absurd h (not_on_rep _ _)
      f12 := fun h => absurd h (not_on_rep _ _)
      f13 := fun h => absurd h (not_on_rep _ _)
      f14 := fun h => absurd h (not_on_rep _ _)
      g12 := fun _ => HB4.out
      k11 := fun h => absurd h (not_on_rep _ _)
      k13 := fun h => absurd h (not_on_rep _ _)
      k14 := fun h => absurd h (not_on_rep _ _)
      k7 := fun h => absurd h (not_on_rep _ _)
      k10 := fun h => absurd h (not_on_rep _ _)
      k12 := fun h => absurd h (not_on_rep _ _)
      eb := HE4.out
      rd := fun _ => ⟨q4, HRD.out, fun _ => Nat.le_refl _, fun _ => by omega, fun _ => by omega⟩
      bl := fun _ _ _ _ => rfl
      os := rfl
      tape := rfl
      output := rfl
      zz := Nat.le_refl _ }⟩
  case steps =>
    refine steps_cons ?s0 (steps_cons ?s1 (steps_cons ?s2 (steps_cons ?s3 (steps_cons ?s4 (steps_cons ?s5 (steps_cons ?s6 (steps_cons ?s7 (steps_cons ?s8 (steps_cons ?s9 (steps_cons ?s10 (steps_cons ?s11 (steps_cons ?s12 (steps_cons ?s13 (steps_cons ?s14 (steps_nil)))))))))))))))
    case s0 =>
      intro l a W hn hd hI K hK
      obtain ⟨v23, v24, v25, v26, v27, v28, v29, v30, v31, v32, v33, v34, t3, t4, rfl, h⟩ := hI
      have HK := Lib.hid hK
      clear hK
      have y0 := h.eb.cell 0
      have y1 := h.eb.cell 1
      have y2 := h.eb.cell 2
      have y3 := h.eb.cell 3
      simp only [List.getElem?_toArray, List.getElem?_cons_zero, List.getElem?_cons_succ] at y0 y1 y2 y3
      go_simp
      exact HK.out _ _ ⟨_, _, _, _, _, _, _, _, _, _, _, _, _, _, rfl, h.on0 hn rfl⟩
    case s1 =>
      intro l a W hn hd hI K hK
      obtain ⟨v23, v24, v25, v26, v27, v28, v29, v30, v31, v32, v33, v34, t3, t4, rfl, h⟩ := hI
      have HK := Lib.hid hK
      clear hK
      go_simp
      exact HK.out _ _ ⟨_, _, _, _, _, _, _, _, _, _, _, _, _, _, rfl, (h.alloc hG4 hBG hEG _).on1 hn ⟨W.heap.size, rfl, h.zz, World.alloc_heap_new W _⟩⟩
    case s2 =>
      intro l a W hn hd hI K hK
      obtain ⟨v23, v24, v25, v26, v27, v28, v29, v30, v31, v32, v33, v34, t3, t4, rfl, h⟩ := hI
      have HK := Lib.hid hK
      clear hK
      go_simp
      exact HK.out _ _ ⟨_, _, _, _, _, _, _, _, _, _, _, _, _, _, rfl, h.on2 hn rfl⟩
    case s5 =>
      intro l a W hn hd hI K hK
      obtain ⟨v23, v24, v25, v26, v27, v28, v29, v30, v31, v32, v33, v34, t3, t4, rfl, h⟩ := hI
      have HK := Lib.hid hK
      clear hK
      go_simp
      exact HK.out _ _ ⟨_, _, _, _, _, _, _, _, _, _, _, _, _, _, rfl, h.on5 hn rfl⟩
    case s8 =>
      intro l a W hn hd hI K hK
      obtain ⟨v23, v24, v25, v26, v27, v28, v29, v30, v31, v32, v33, v34, t3, t4, rfl, h⟩ := hI
      have HK := Lib.hid hK
      clear hK
      go_simp
      exact HK.out _ _ ⟨_, _, _, _, _, _, _, _, _, _, _, _, _, _, rfl, h.on8 hn rfl⟩
    case s3 =>
      intro l a W hn hd hI K hK
      obtain ⟨v23, v24, v25, v26, v27, v28, v29, v30, v31, v32, v33, v34, t3, t4, rfl, h⟩ := hI
      have HK := Lib.hid hK
      clear hK
      go_simp
      exact HK.out _ _ ⟨_, _, _, _, _, _, _, _, _, _, _, _, _, _, rfl, (h.alloc hG4 hBG hEG _).on3 hn ⟨W.heap.size, rfl, h.zz, World.alloc_heap_new W _⟩⟩
    case s6 =>
      intro l a W hn hd hI K hK
      obtain ⟨v23, v24, v25, v26, v27, v28, v29, v30, v31, v32, v33, v34, t3, t4, rfl, h⟩ := hI
      have HK := Lib.hid hK
      clear hK
      go_simp
      exact HK.out _ _ ⟨_, _, _, _, _, _, _, _, _, _, _, _, _, _, rfl, (h.alloc hG4 hBG hEG _).on6 hn ⟨W.heap.size, rfl, h.zz, World.alloc_heap_new W _⟩⟩
    case s9 =>
      intro l a W hn hd hI K hK
      obtain ⟨v23, v24, v25, v26, v27, v28, v29, v30, v31, v32, v33, v34, t3, t4, rfl, h⟩ := hI
      have HK := Lib.hid hK
      clear hK
      go_simp
      exact HK.out _ _ ⟨_, _, _, _, _, _, _, _, _, _, _, _, _, _, rfl, (h.alloc hG4 hBG hEG _).on9 hn ⟨W.heap.size, rfl, h.zz, World.alloc_heap_new W _⟩⟩
    case s4 =>
      intro l a W hn hd hI K hK
      obtain ⟨v23, v24, v25, v26, v27, v28, v29, v30, v31, v32, v33, v34, t3, t4, rfl, h⟩ := hI
      have HK := Lib.hid hK
      clear hK
      have dm := hd { on := 2, ground := .data } (by simp) (by rfl)
      have db := hd { on := 3, ground := .data } (by simp) (by rfl)
      have n12 : ¬ On l 12 := fun z => hn (h.k7 (h.k10 (h.k12 z)))
      obtain ⟨q, hrd, hb0, hb1, hb2⟩ := h.rd n12
      obtain rfl := h.f2 dm
      obtain ⟨b, rfl, hbN, hblk⟩ := h.f3 db
      have hlt : b < W.heap.size := (Array.getElem?_eq_some_iff.1 hblk).1
      have hqb : q ≤ 1000 + 3 := by have := hb0 hn; omega
      go_simp
      go_at_call 36
      refine (num_any G G A' len' cap' q b 3 3 [0, 1, -5] W hrd (by omega) rfl (by omega) (by omega) hlt (by omega) (fun j hj => ?_)).mono ?_
      · simp only [World.cell?, hblk]
        match j, hj with
        | 0, _ => rfl
        | 1, _ => rfl
        | 2, _ => rfl
      rintro r W' ⟨u, hu, rfl, q', hq1', hq2', hrd', hgr⟩
      have hx : IsI u := by
        simp at hu
        rcases hu with rfl | rfl | rfl <;> exact ⟨_, rfl, by omega, by omega⟩
      have hz := hgr.size
      go_wp2_with fail
      exact HK.out _ _ ⟨_, _, _, _, _, _, _, _, _, _, _, _, _, _, rfl, (h.on4 hn (fun _ => ⟨q, hrd, fun y => absurd (on_self (by have := h.sz; omega)) y, fun y => hb1 (fun z => y z.more), fun y => hb2 (fun z => y z.more)⟩) hx).grow hG4 hBG hEG hz (fun k h1 h2 => hgr.block k h1 (fun e => h2 (by injection e))) ⟨hgr.os, hgr.tape, hgr.output⟩ (fun _ => ⟨q', hrd', fun y => absurd (on_self (by have := h.sz; omega)) y, fun _ => by have := hb0 hn; omega, fun _ => by have := hb0 hn; omega⟩)⟩
    case s7 =>
      intro l a W hn hd hI K hK
      obtain ⟨v23, v24, v25, v26, v27, v28, v29, v30, v31, v32, v33, v34, t3, t4, rfl, h⟩ := hI
      have HK := Lib.hid hK
      clear hK
      have dm := hd { on := 5, ground := .data } (by simp) (by rfl)
      have db := hd { on := 6, ground := .data } (by simp) (by rfl)
      have d4 := hd { on := 4, ground := .chain } (by simp) (by rfl)
      have n12 : ¬ On l 12 := fun z => hn (h.k10 (h.k12 z))
      obtain ⟨q, hrd, hb0, hb1, hb2⟩ := h.rd n12
      obtain rfl := h.f5 dm
      obtain ⟨b, rfl, hbN, hblk⟩ := h.f6 db
      have hlt : b < W.heap.size := (Array.getElem?_eq_some_iff.1 hblk).1
      have hqb : q ≤ 1000 + 3 := by have := hb1 hn; omega
      go_simp
      go_at_call 36
      refine (num_any G G A' len' cap' q b 2 2 [2, 1000] W hrd (by omega) rfl (by omega) (by omega) hlt (by omega) (fun j hj => ?_)).mono ?_
      · simp only [World.cell?, hblk]
        match j, hj with
        | 0, _ => rfl
        | 1, _ => rfl
      rintro r W' ⟨u, hu, rfl, q', hq1', hq2', hrd', hgr⟩
      have hx : IsI u := by
        simp at hu
        rcases hu with rfl | rfl <;> exact ⟨_, rfl, by omega, by omega⟩
      have hz := hgr.size
      go_wp2_with fail
      exact HK.out _ _ ⟨_, _, _, _, _, _, _, _, _, _, _, _, _, _, rfl, (h.on7 hn d4 (fun _ => ⟨q, hrd, fun y => absurd d4.more y, fun y => absurd (on_self (by have := h.sz; omega)) y, fun y => hb2 (fun z => y z.more)⟩) hx).grow hG4 hBG hEG hz (fun k h1 h2 => hgr.block k h1 (fun e => h2 (by injection e))) ⟨hgr.os, hgr.tape, hgr.output⟩ (fun _ => ⟨q', hrd', fun y => absurd d4.more y, fun y => absurd (on_self (by have := h.sz; omega)) y, fun _ => by have := hb1 hn; omega⟩)⟩
    case s10 =>
      intro l a W hn hd hI K hK
      obtain ⟨v23, v24, v25, v26, v27, v28, v29, v30, v31, v32, v33, v34, t3, t4, rfl, h⟩ := hI
      have HK := Lib.hid hK
      clear hK
      have dm := hd { on := 8, ground := .data } (by simp) (by rfl)
      have db := hd { on := 9, ground := .data } (by simp) (by rfl)
      have d7 := hd { on := 7, ground := .chain } (by simp) (by rfl)
      have n12 : ¬ On l 12 := fun z => hn (h.k12 z)
      obtain ⟨q, hrd, hb0, hb1, hb2⟩ := h.rd n12
      obtain rfl := h.f8 dm
      obtain ⟨b, rfl, hbN, hblk⟩ := h.f9 db
      have hlt : b < W.heap.size := (Array.getElem?_eq_some_iff.1 hblk).1
      have hqb : q ≤ 1000 + 3 := by have := hb2 hn; omega
      go_simp
      go_at_call 36
      refine (num_any G G A' len' cap' q b 3 3 [1, 4, 9999999] W hrd (by omega) rfl (by omega) (by omega) hlt (by omega) (fun j hj => ?_)).mono ?_
      · simp only [World.cell?, hblk]
        match j, hj with
        | 0, _ => rfl
        | 1, _ => rfl
        | 2, _ => rfl
      rintro r W' ⟨u, hu, rfl, q', hq1', hq2', hrd', hgr⟩
      have hx : IsI u := by
        simp at hu
        rcases hu with rfl | rfl | rfl <;> exact ⟨_, rfl, by omega, by omega⟩
      have hz := hgr.size
      go_wp2_with fail
      exact HK.out _ _ ⟨_, _, _, _, _, _, _, _, _, _, _, _, _, _, rfl, (h.on10 hn d7 (fun _ => ⟨q, hrd, fun y => absurd (h.k7 d7).more y, fun y => absurd d7.more y, fun y => absurd (on_self (by have := h.sz; omega)) y⟩) hx).grow hG4 hBG hEG hz (fun k h1 h2 => hgr.block k h1 (fun e => h2 (by injection e))) ⟨hgr.os, hgr.tape, hgr.output⟩ (fun _ => ⟨q', hrd', fun y => absurd (h.k7 d7).more y, fun y => absurd d7.more y, fun y => absurd (on_self (by have := h.sz; omega)) y⟩)⟩
    case s11 =>
      intro l a W hn hd hI K hK
      obtain ⟨v23, v24, v25, v26, v27, v28, v29, v30, v31, v32, v33, v34, t3, t4, rfl, h⟩ := hI
      have HK := Lib.hid hK
      clear hK
      have d4 := hd { on := 4, ground := .data } (by simp) (by rfl)
      have d7 := hd { on := 7, ground := .data } (by simp) (by rfl)
      have d10 := hd { on := 10, ground := .data } (by simp) (by rfl)
      obtain ⟨z1, rfl, _, _⟩ := h.f4 d4
      obtain ⟨z2, rfl, _, _⟩ := h.f7 d7
      obtain ⟨z3, rfl, _, _⟩ := h.f10 d10
      go_simp
      exact HK.out _ _ ⟨_, _, _, _, _, _, _, _, _, _, _, _, _, _, rfl, (h.alloc hG4 hBG hEG _).on11 hn d4 d7 d10 ⟨W.heap.size, rfl, h.zz, World.alloc_heap_new W _⟩⟩
    case s12 =>
      intro l a W hn hd hI K hK
      obtain ⟨v23, v24, v25, v26, v27, v28, v29, v30, v31, v32, v33, v34, t3, t4, rfl, h⟩ := hI
      have HK := Lib.hid hK
      clear hK
      have d0 := hd { on := 0, ground := .data } (by simp) (by rfl)
      have d10 := hd { on := 10, ground := .chain } (by simp) (by rfl)
      obtain rfl := h.f0 d0
      have hB := h.g12 hn
      have x0 := hB.cell 0
      have f0 := hB.frozen 0
      have x1 := hB.cell 1
      have f1 := hB.frozen 1
      have x2 := hB.cell 2
      have f2 := hB.frozen 2
      have x3 := hB.cell 3
      have f3 := hB.frozen 3
      simp only [List.getElem?_toArray, List.getElem?_cons_zero, List.getElem?_cons_succ] at x0 x1 x2 x3
      go_simp
      exact HK.out _ _ ⟨_, _, _, _, _, _, _, _, _, _, _, _, _, _, rfl, h.on12 hEB hBG (by omega) (fun k hk => heap_set4 _ _ _ _ _ _ _ hk) (blk_set4 _ _ _ _ hB) (size_set4 _ _ _ _ _ _) ⟨rfl, rfl, rfl⟩ d10⟩
    case s13 =>
      intro l a W hn hd hI K hK
      obtain ⟨v23, v24, v25, v26, v27, v28, v29, v30, v31, v32, v33, v34, t3, t4, rfl, h⟩ := hI
      have HK := Lib.hid hK
      clear hK
      have d1 := hd { on := 1, ground := .data } (by simp) (by rfl)
      go_simp
      exact HK.out _ _ ⟨_, _, _, _, _, _, _, _, _, _, _, _, _, _, rfl, h.on13 hn d1 rfl⟩
    case s14 =>
      intro l a W hn hd hI K hK
      obtain ⟨v23, v24, v25, v26, v27, v28, v29, v30, v31, v32, v33, v34, t3, t4, rfl, h⟩ := hI
      have HK := Lib.hid hK
      clear hK
      have d11 := hd { on := 11, ground := .data } (by simp) (by rfl)
      go_simp
      exact HK.out _ _ ⟨_, _, _, _, _, _, _, _, _, _, _, _, _, _, rfl, h.on14 hn d11 rfl⟩
  case low => exact low_of (by kernel_rfl)
  case fin =>
    intro l a W hall hI
    obtain ⟨v23, v24, v25, v26, v27, v28, v29, v30, v31, v32, v33, v34, t3, t4, rfl, h⟩ := hI
    have on : ∀ i, i < 15 → On l i := hall
    obtain ⟨z1, rfl, b1, c1⟩ := h.f4 (on 4 (by decide))
    obtain ⟨z2, rfl, b2, c2⟩ := h.f7 (on 7 (by decide))
    obtain ⟨z3, rfl, b3, c3⟩ := h.f10 (on 10 (by decide))
    obtain ⟨bN, rfl, hbN, hN⟩ := h.f1 (on 1 (by decide))
    obtain ⟨bT, rfl, hbT, hT⟩ := h.f11 (on 11 (by decide))
    obtain rfl := h.f13 (on 13 (by decide))
    obtain rfl := h.f14 (on 14 (by decide))
    have hB := h.f12 (on 12 (by decide))
    have r0 := hB.cell 0
    have r1 := hB.cell 1
    have r2 := hB.cell 2
    have r3 := hB.cell 3
    simp only [List.getElem?_toArray, List.getElem?_cons_zero, List.getElem?_cons_succ] at r0 r1 r2 r3
    have HFIN := Lib.hid (show DrawnO w (.returned (.tuple #[.agg #[.int .i64 e.kind, .int .i64 e.n, .string e.s, .slice Ae e.kids.length c], .slice (some ⟨bN, 0, none⟩) 4 4, .slice (some ⟨bT, 0, none⟩) 4 4])) W from
      ⟨e, Ae, c, some ⟨bN, 0, none⟩, some ⟨bT, 0, none⟩, 4, 4, [⟨#[120]⟩, ⟨#[121]⟩, ⟨#[122]⟩, ⟨#[120]⟩], [9, z1, z2, z3], rfl, hc,
        own_wide (own_keep _ _ _ _ (fun k h1 h2 => h.bl k (by omega) (by omega) (by omega)) HO4.out) (by omega) (by have := h.zz; omega), HS.out, hwt, sl_of_blk hN, sl_of_blkI hT, by simp, by simp,
        (fun z hz => by simp at hz; rcases hz with rfl | rfl | rfl | rfl <;> omega), hbl4.trans ⟨h.os, h.tape, h.output, h.zz, fun k hk => h.bl k (by omega) (by omega) (by omega)⟩⟩)
    clear h hN hT hB on hall
    go_wp2_with fail
    refine bodyPost_ret (v := .tuple #[.agg #[.int .i64 e.kind, .int .i64 e.n, .string e.s, .slice Ae e.kids.length c], .slice (some ⟨bN, 0, none⟩) 4 4, .slice (some ⟨bT, 0, none⟩) 4 4]) (by simp [results, Tryz.results20, go_sem, r0, r1, r2, r3]) rfl HFIN.out
end Go.Proofs.YtaclndbilpaboaaGreatDoor
