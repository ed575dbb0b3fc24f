/-
  The contract of the library's slices.Backward at lists of texts: it yields each place and its text, from the last to the first.
-/
import Derived.RangeFuncNested
import Derived.RangeFuncBound
import Derived.RangeFuncCalls
import Derived.RangeFuncLeaves
import Derived.RangeFuncBox
import Derived.Shelf.Abstract
import Derived.Shelf.RegionOpen
import Derived.WalkKit
import Derived.OwnWalkIn
import Derived.TacticsInMore
import Derived.LoopNIn
import Derived.LoopIn
import Derived.Lib.Hide
import Derived.Test.YtaclndbilpaboaaGreatDoorExLaws
import Derived.Test.YtaclndbilpaboaaGreatDoorStrs
namespace Go.Proofs.YtaclndbilpaboaaGreatDoor
open Go.RowKit Go.Shelf
attribute [local go_sem] Oper.semAt_some

/-- The places below k, the last first. -/
def downs (n : Nat) : (k : Nat) → k ≤ n → List (Fin n)
  | 0, _ => []
  | k + 1, h => ⟨k, h⟩ :: downs n k (Nat.le_of_succ_le h)
def noneIs (ss : List ByteArray) (s : ByteArray) (pre : List (Fin ss.length)) : Prop := ∀ i ∈ pre, ss[i.1] ≠ s
theorem getD_at (ss : List ByteArray) {k : Nat} (h : k < ss.length) : ss.getD k ByteArray.empty = ss[k] := by simp [List.getD, h]
theorem downs_none {ss : List ByteArray} {s : ByteArray} : ∀ k (hk : k ≤ ss.length), noneIs ss s (downs ss.length k hk) → findL ss s k = none := by
  intro k
  induction k with
  | zero => intro _ _; rfl
  | succ k ih =>
    intro hk h
    rw [findL, getD_at ss hk, if_neg (h ⟨k, hk⟩ (by simp [downs]))]
    exact ih (Nat.le_of_succ_le hk) (fun i hi => h i (by simp [downs, hi]))
theorem downs_some {ss : List ByteArray} {s : ByteArray} {i : Fin ss.length} (hi : ss[i.1] = s) : ∀ k (hk : k ≤ ss.length) (pre : List (Fin ss.length)), pre ++ [i] <+: downs ss.length k hk → noneIs ss s pre → findL ss s k = some i.1 := by
  intro k
  induction k with
  | zero => intro hk pre h _; simp [downs] at h
  | succ k ih =>
    intro hk pre h hp
    rw [findL, getD_at ss hk]
    cases pre with
    | nil =>
      rw [downs, List.nil_append, List.cons_prefix_cons] at h
      have e : i = ⟨k, hk⟩ := h.1
      subst e
      rw [if_pos hi]
    | cons j rest =>
      rw [downs, List.cons_append, List.cons_prefix_cons] at h
      have e : j = ⟨k, hk⟩ := h.1
      subst e
      rw [if_neg (hp ⟨k, hk⟩ (by simp))]
      exact ih (Nat.le_of_succ_le hk) rest h.2 (fun x hx => hp x (by simp [hx]))

/-- The box at Bs holds the slice, which holds these texts. -/
def NamesAt (Bs : Nat) (A : Option Addr) (c : Nat) (ss : List ByteArray) (W : World) : Prop := W.cell? ⟨Bs, 0, none⟩ = some (.slice A ss.length c) ∧ SlIs W A (ss.map strV)
theorem NamesAt.grown {Bs : Nat} {A : Option Addr} {c : Nat} {ss : List ByteArray} {W W' : World} {row : Option Nat} (h : NamesAt Bs A c ss W) (hg : W.grownBy W' row) (hr : ∀ r, row = some r → ∃ o : Obj, W.heap[r]? = some o ∧ o.isCells = false) : NamesAt Bs A c ss W' := by
  refine ⟨cell_kept h.1 hg hr, ?_⟩
  rcases h.2 with h0 | ⟨g, off, e, hlt, hc⟩
  · exact .inl h0
  · exact .inr ⟨g, off, e, Nat.lt_of_lt_of_le hlt hg.size, fun j u hu => cell_kept (hc j u hu) hg hr⟩
theorem NamesAt.below {Bs : Nat} {A : Option Addr} {c : Nat} {ss : List ByteArray} {W W' : World} (h : NamesAt Bs A c ss W) (hb : Below W.heap.size W W') : NamesAt Bs A c ss W' := by
  refine ⟨(hb.cell (p := ⟨Bs, 0, none⟩) ?_).trans h.1, h.2.below hb⟩
  rcases Nat.lt_or_ge Bs W.heap.size with hlt | hge
  · exact hlt
  · have := h.1; simp [World.cell?, Array.getElem?_eq_none hge] at this
theorem NamesAt.lt {Bs : Nat} {A : Option Addr} {c : Nat} {ss : List ByteArray} {W : World} (h : NamesAt Bs A c ss W) : Bs < W.heap.size := by
  rcases Nat.lt_or_ge Bs W.heap.size with hlt | hge
  · exact hlt
  · have := h.1; simp [World.cell?, Array.getElem?_eq_none hge] at this
def KeepsN (Bs : Nat) (A : Option Addr) (c : Nat) (ss : List ByteArray) (W W' : World) : Prop := NamesAt Bs A c ss W → NamesAt Bs A c ss W'
theorem KeepsN.t {Bs : Nat} {A : Option Addr} {c : Nat} {ss : List ByteArray} {X Y Z : World} (h : KeepsN Bs A c ss X Y) (k : KeepsN Bs A c ss Y Z) : KeepsN Bs A c ss X Z := fun q => k (h q)
theorem KeepsN.b {Bs : Nat} {A : Option Addr} {c : Nat} {ss : List ByteArray} {w : World} (W : World) (l : Nat) (o o' : Obj) (_ : w.heap.size ≤ l) (h : W.heap[l]? = some o) (ho : o.isCells = false) (_ : o.isWalk = false) : KeepsN Bs A c ss W (W.putObj l o') := fun q =>
  q.grown (grownBy_putObj' _ l o') (fun r e => by cases e; exact ⟨_, h, ho⟩)

set_option maxRecDepth 100000 in
set_option maxHeartbeats 2000000 in
theorem back1_in (F : Fence) (n : Nat) (hf : F.fn 55) (hro : F.round = none) (hn : 1 ≤ n) (l Bs : Nat) (A : Option Addr) (c : Nat) (ss : List ByteArray) (hl : ss.length ≤ 2 ^ 40) (J Jx : List (Fin ss.length) → World → Prop)
    (hY : ∀ pre (x : Fin ss.length) W, J pre W → pre.length < ss.length → YieldAt F (n - 1) Tryz.prog l #[.int .i64 (x.1 : Int), .string ss[x.1]] W fun e W' =>
      (e = .returned (.bool true) ∧ J (pre ++ [x]) W' ∧ KeepsN Bs A c ss W W') ∨ (e = .returned (.bool false) ∧ Jx (pre ++ [x]) W'))
    (W : World) (hN : NamesAt Bs A c ss W) (h0 : J [] W) :
    CallsIn F n Tryz.prog 55 #[.func (.yield l) #[] #[], .pointer (some ⟨Bs, 0, none⟩)] W fun e W' => (∃ v, e = .returned v) ∧
      ((∃ ys, ys = downs ss.length ss.length (Nat.le_refl _) ∧ J ys W') ∨ (∃ pre, pre <+: downs ss.length ss.length (Nat.le_refl _) ∧ Jx pre W')) := by
  have hcb := hN.1
  refine callsIn_of_wp Tryz.func55 rfl hf ?_ hro
  simp only [Tryz.ntmps55, List.size_toArray, List.length_cons, List.length_nil, Nat.reduceAdd, Nat.reduceSub, Array.replicate_succ, Array.replicate_zero, List.push_toArray, List.append_toArray, List.nil_append, List.cons_append]
  gi_wp2
  gi_loopw [3] (fun d wr => ∃ (pre : List (Fin ss.length)) (k : Nat) (hk : k ≤ ss.length), d = .int .i64 ((k : Int) - 1) ∧ downs ss.length ss.length (Nat.le_refl _) = pre ++ downs ss.length k hk ∧ pre.length + k = ss.length ∧ J pre wr ∧ NamesAt Bs A c ss wr)
    (fun d _ => (intOf d + 1).toNat)
  case atStart => exact ⟨[], ss.length, Nat.le_refl _, by go_num, rfl, by simp, h0, hN⟩
  case round =>
    obtain ⟨pre, k, hk, rfl, hx, hpl, hJs, hNx⟩ := hrel
    have HX := Lib.hid hx; clear hx
    clear hcb
    have hcb := hNx.1
    rcases k with _ | k
    · have q : ((0 : Nat) : Int) - 1 = -1 := rfl
      rw [q]
      gi_wp2
      go_end0
      exact ⟨⟨_, rfl⟩, .inl ⟨_, by rw [HX.out]; simp [downs], hJs⟩⟩
    · have q : ((k + 1 : Nat) : Int) - 1 = (k : Int) := by omega
      rw [q]
      have hkl : k < ss.length := hk
      obtain ⟨g, off, rfl, hg, hc⟩ := hNx.2.at_ (k := k) (by simpa using hkl)
      simp only [List.getElem_map, strV] at hc
      have HF := Lib.hid (show downs ss.length ss.length (Nat.le_refl _) = (pre ++ [⟨k, hkl⟩]) ++ downs ss.length k (by omega) by rw [HX.out]; simp [downs])
      clear HX
      obtain ⟨fn, tmps, assign, body, hy, hR⟩ := hY pre ⟨k, hkl⟩ wr hJs (by omega)
      dsimp only at hy
      have HNX := Lib.hid hNx
      clear hNx
      generalize ss[k] = t at *
      gi_wp2
      refine hR.mono ?_
      rintro e W3 (⟨rfl, hJ3, hk3⟩ | ⟨rfl, hJx3⟩)
      · gi_wp2
        go_roundw
        case rel => exact ⟨pre ++ [⟨k, hkl⟩], k, by omega, by go_num, HF.out, by simp; omega, hJ3, hk3 HNX.out⟩
        case measure => simp [intOf]
      · gi_wp2
        refine bodyPost_ret (results_none rfl _ _ _) rfl ?_
        exact ⟨⟨_, rfl⟩, .inr ⟨pre ++ [⟨k, hkl⟩], ⟨downs ss.length k (by omega), HF.out.symm⟩, hJx3⟩⟩

set_option maxHeartbeats 1000000 in
/-- Backward(s): the slice is boxed; the function value captures the box. -/
theorem back_in (F : Fence) (n : Nat) (hf : F.fn 45) (hro : F.round = none) (A : Option Addr) (m c : Nat) (w : World) :
    CallsIn F n Tryz.prog 45 #[.slice A m c] w fun e w' => e = .returned (.func (.func 55) #[] #[.pointer (some ⟨w.heap.size, 0, none⟩)]) ∧ w' = w.alloc (.cells #[.slice A m c] 25) := by
  refine callsIn_of_wp Tryz.func45 rfl hf ?_ hro
  simp only [Tryz.ntmps45, List.size_toArray, List.length_cons, List.length_nil, Nat.reduceAdd, Nat.reduceSub, Array.replicate_succ, Array.replicate_zero, List.push_toArray, List.append_toArray, List.nil_append, List.cons_append]
  gi_wp2
  go_ret
  exact ⟨rfl, rfl⟩

theorem back_stops (F : Fence) (n : Nat) (hf : F.fn 55) (hro : F.round = none) (hn : 1 ≤ n) (Bs : Nat) (A : Option Addr) (c : Nat) (ss : List ByteArray) (hl : ss.length ≤ 2 ^ 40) (w : World) (hN : NamesAt Bs A c ss w) :
    SeqStopsK F n Tryz.prog 55 #[.pointer (some ⟨Bs, 0, none⟩)] (fun x : Fin ss.length => #[Value.int .i64 (x.1 : Int), .string ss[x.1]]) (KeepsN Bs A c ss) (fun ys => ys = downs ss.length ss.length (Nat.le_refl _)) (fun pre => pre <+: downs ss.length ss.length (Nat.le_refl _)) ss.length w := fun l J Jx W hW _ _ hY h0 =>
  back1_in F n hf hro hn l Bs A c ss hl J Jx hY W (hN.below hW) h0
end Go.Proofs.YtaclndbilpaboaaGreatDoor
