/-
  A region that draws its order, by what holds of each set of operations that have come up: one obligation an operation, whatever the orders.
-/
import Derived.Test.YtaclndbilpaboaaGreatDoorProg
import Derived.Orders
import Derived.Deep.RegionHeld3
namespace Go.Proofs.YtaclndbilpaboaaGreatDoor

section
variable {P : Program} {md : Region.Mode} {ops : Array Oper} {Q : Exit → Act → World → Prop}

/-- This operation has come up. -/
def On (l : Array Bool) (j : Nat) : Prop := l.getD j false = true
theorem On.set {l : Array Bool} {i j : Nat} (h : On (l.setIfInBounds i true) j) (hne : j ≠ i) : On l j := by
  unfold On at *
  rwa [getD_set_ne false (Ne.symm hne)] at h
theorem On.more {l : Array Bool} {i j : Nat} (h : On l j) : On (l.setIfInBounds i true) j := getD_set_true h
theorem not_on {l : Array Bool} {i : Nat} (h : l.getD i true = false) : ¬ On l i := by
  unfold On
  rcases Nat.lt_or_ge i l.size with h' | h'
  · simp [h'] at h ⊢; exact h
  · simp [Array.getElem?_eq_none h'] at h

theorem count_set (l : List Bool) : ∀ i, l[i]? = some false → (l.set i true).count false + 1 = l.count false := by
  induction l with
  | nil => intro i h; simp at h
  | cons b l ih =>
    intro i h
    cases i with
    | zero => simp at h; subst h; simp
    | succ i =>
      have := ih i (by simpa using h)
      rw [List.set_cons_succ]
      cases b <;> simp <;> omega

/-- What one operation owes. -/
def StepInv (P : Program) (md : Region.Mode) (ops : Array Oper) (Q : Exit → Act → World → Prop) (I : Array Bool → Act → World → Prop) (i : Nat) (o : Oper) : Prop :=
  ∀ (l : Array Bool) (a : Act) (W : World), ¬ On l i → (∀ e ∈ o.after, Region.binds md e = true → On l e.on) → I l a W → ∀ K : Act → World → Prop, (∀ a' W', I (l.setIfInBounds i true) a' W' → K a' W') →
    if Region.wanted o (yielded ops a.tmps) = true then Oper.wp P o a W K Q else K (a.put o.dst undef) W
def StepsInv (P : Program) (md : Region.Mode) (ops : Array Oper) (Q : Exit → Act → World → Prop) (I : Array Bool → Act → World → Prop) : Nat → List Oper → Prop
  | _, [] => True
  | i, o :: os => StepInv P md ops Q I i o ∧ StepsInv P md ops Q I (i + 1) os
theorem StepsInv.at_ {I : Array Bool → Act → World → Prop} : ∀ {os : List Oper} {k : Nat}, StepsInv P md ops Q I k os → ∀ (i : Nat) (o : Oper), os[i]? = some o → StepInv P md ops Q I (k + i) o
  | [], _, _, _, _, h => by simp at h
  | o :: os, k, hs, 0, o', h => by simp at h; subst h; exact hs.1
  | o :: os, k, hs, i + 1, o', h => by
    have := StepsInv.at_ hs.2 i o' (by simpa using h)
    rwa [show k + 1 + i = k + (i + 1) by omega] at this

theorem wpAny_inv (I : Array Bool → Act → World → Prop) (hs : StepsInv P md ops Q I 0 ops.toList) (fin : ∀ l a W, l.size = ops.size → Region.ready md ops l = [] → I l a W → Q .normal a W) :
    ∀ (fuel : Nat) (l : Array Bool) (a : Act) (W : World), l.size = ops.size → l.toList.count false ≤ fuel → I l a W → wpAny P md ops Q fuel l a W := by
  intro fuel
  induction fuel with
  | zero =>
    intro l a W hz hc hI
    have hr : Region.ready md ops l = [] := by
      apply List.eq_nil_iff_forall_not_mem.2
      intro j hj
      have h0 := (mem_ready.1 hj).1
      have : false ∈ l.toList := by
        rcases Nat.lt_or_ge j l.size with h' | h'
        · simp [h'] at h0
          rw [← h0]
          exact Array.mem_toList_iff.2 (Array.getElem_mem h')
        · simp [Array.getElem?_eq_none h'] at h0
      have := List.count_pos_iff.2 this
      omega
    exact ⟨hr, fin l a W hz hr hI⟩
  | succ fuel ih =>
    intro l a W hz hc hI
    refine ⟨fun hr => fin l a W hz hr hI, fun i hi => ?_⟩
    obtain ⟨h0, o, ho, hall⟩ := mem_ready.1 hi
    have hst := StepsInv.at_ hs i o (by simpa using ho)
    rw [Nat.zero_add] at hst
    refine wpOp_step ho (fun K hK => hst l a W (not_on h0) (fun e he hb => hall e he hb) hI K (fun a' W' hI' => hK a' W' (ih _ a' W' (by simpa using hz) ?_ hI')))
    have hli : l.toList[i]? = some false := by
      rcases Nat.lt_or_ge i l.size with h' | h'
      · simp [h'] at h0 ⊢; exact h0
      · simp [Array.getElem?_eq_none h'] at h0
    have := count_set l.toList i hli
    rw [Array.toList_setIfInBounds]
    omega
/-- All have come up, if nothing may come up any more. -/
theorem all_on {l : Array Bool} (hz : l.size = ops.size) (hlow : ∀ (i : Nat) (o : Oper), ops[i]? = some o → ∀ e ∈ o.after, Region.binds md e = true → e.on < i) (hr : Region.ready md ops l = []) : ∀ i, i < ops.size → On l i := by
  intro i
  induction i using Nat.strongRecOn with
  | ind i ih =>
    intro hi
    cases h : l.getD i false with
    | true => exact h
    | false =>
      exfalso
      have hm : i ∈ Region.ready md ops l := by
        refine mem_ready.2 ⟨?_, ops[i], Array.getElem?_eq_getElem hi, fun e he hb => ?_⟩
        · have h' : i < l.size := by omega
          simp [h'] at h ⊢
          exact h
        · have h1 := hlow i _ (Array.getElem?_eq_getElem hi) e he hb
          exact ih e.on h1 (by omega)
      rw [hr] at hm
      cases hm
theorem wp_region_inv {id : Nat} {a : Act} {w : World} (hm : P.follows .mixedOrders = true) (I : Array Bool → Act → World → Prop) (h0 : I (Array.replicate ops.size false) a w.drew) (hs : StepsInv P .any ops Q I 0 ops.toList)
    (hlow : ∀ (i : Nat) (o : Oper), ops[i]? = some o → ∀ e ∈ o.after, Region.binds .any e = true → e.on < i) (fin : ∀ l a W, (∀ i, i < ops.size → On l i) → I l a W → Q .normal a W) : (Code.region id ops true).wp P Q a w :=
  wp_region_any hm (wpAny_inv I hs (fun l a W hz hr hI => fin l a W (all_on hz hlow hr) hI) ops.size (Array.replicate ops.size false) a w.drew (by simp) (by simp) h0)
end
end Go.Proofs.YtaclndbilpaboaaGreatDoor
