/-
  Back, Ints, Told, MethOf: these texts one behind the other, as a claim holds at most 60 files.
-/
import Derived.RangeFuncNested
import Derived.RangeFuncBound
import Derived.RangeFuncCalls
import Derived.RangeFuncLeaves
import Derived.RangeFuncBox
import Derived.Shelf.Abstract
import Derived.Shelf.RegionOpen
import Derived.WalkKit
import Derived.OwnWalkIn
import Derived.TacticsInMore
import Derived.LoopNIn
import Derived.LoopIn
import Derived.Lib.Hide
import Derived.Test.YtkfnbakhbbcfcaaGreatDoorExLaws
import Derived.Test.YtkfnbakhbbcfcaaGreatDoorStrs
import Derived.Test.YtkfnbakhbbcfcaaGreatDoorBase
import Derived.Test.YtkfnbakhbbcfcaaGreatDoorMeth
import Derived.Test.YtkfnbakhbbcfcaaGreatDoorExprOk
namespace Go.Proofs.YtkfnbakhbbcfcaaGreatDoor
open Go.RowKit Go.Shelf
attribute [local go_sem] Oper.semAt_some

/-- The places below k, the last first. -/
def downs (n : Nat) : (k : Nat) → k ≤ n → List (Fin n)
  | 0, _ => []
  | k + 1, h => ⟨k, h⟩ :: downs n k (Nat.le_of_succ_le h)
def noneIs (ss : List ByteArray) (s : ByteArray) (pre : List (Fin ss.length)) : Prop := ∀ i ∈ pre, ss[i.1] ≠ s
theorem getD_at (ss : List ByteArray) {k : Nat} (h : k < ss.length) : ss.getD k ByteArray.empty = ss[k] := by simp [List.getD, h]
theorem downs_none {ss : List ByteArray} {s : ByteArray} : ∀ k (hk : k ≤ ss.length), noneIs ss s (downs ss.length k hk) → findL ss s k = none := by
  intro k
  induction k with
  | zero => intro _ _; rfl
  | succ k ih =>
    intro hk h
    rw [findL, getD_at ss hk, if_neg (h ⟨k, hk⟩ (by simp [downs]))]
    exact ih (Nat.le_of_succ_le hk) (fun i hi => h i (by simp [downs, hi]))
theorem downs_some {ss : List ByteArray} {s : ByteArray} {i : Fin ss.length} (hi : ss[i.1] = s) : ∀ k (hk : k ≤ ss.length) (pre : List (Fin ss.length)), pre ++ [i] <+: downs ss.length k hk → noneIs ss s pre → findL ss s k = some i.1 := by
  intro k
  induction k with
  | zero => intro hk pre h _; simp [downs] at h
  | succ k ih =>
    intro hk pre h hp
    rw [findL, getD_at ss hk]
    cases pre with
    | nil =>
      rw [downs, List.nil_append, List.cons_prefix_cons] at h
      have e : i = ⟨k, hk⟩ := h.1
      subst e
      rw [if_pos hi]
    | cons j rest =>
      rw [downs, List.cons_append, List.cons_prefix_cons] at h
      have e : j = ⟨k, hk⟩ := h.1
      subst e
      rw [if_neg (hp ⟨k, hk⟩ (by simp))]
      exact ih (Nat.le_of_succ_le hk) rest h.2 (fun x hx => hp x (by simp [hx]))

/-- The box at Bs holds the slice, which holds these texts. -/
def NamesAt (Bs : Nat) (A : Option Addr) (c : Nat) (ss : List ByteArray) (W : World) : Prop := W.cell? ⟨Bs, 0, none⟩ = some (.slice A ss.length c) ∧ SlIs W A (ss.map strV)
theorem NamesAt.grown {Bs : Nat} {A : Option Addr} {c : Nat} {ss : List ByteArray} {W W' : World} {row : Option Nat} (h : NamesAt Bs A c ss W) (hg : W.grownBy W' row) (hr : ∀ r, row = some r → ∃ o : Obj, W.heap[r]? = some o ∧ o.isCells = false) : NamesAt Bs A c ss W' := by
  refine ⟨cell_kept h.1 hg hr, ?_⟩
  rcases h.2 with h0 | ⟨g, off, e, hlt, hc⟩
  · exact .inl h0
  · exact .inr ⟨g, off, e, Nat.lt_of_lt_of_le hlt hg.size, fun j u hu => cell_kept (hc j u hu) hg hr⟩
theorem NamesAt.below {Bs : Nat} {A : Option Addr} {c : Nat} {ss : List ByteArray} {W W' : World} (h : NamesAt Bs A c ss W) (hb : Below W.heap.size W W') : NamesAt Bs A c ss W' := by
  refine ⟨(hb.cell (p := ⟨Bs, 0, none⟩) ?_).trans h.1, h.2.below hb⟩
  rcases Nat.lt_or_ge Bs W.heap.size with hlt | hge
  · exact hlt
  · have := h.1; simp [World.cell?, Array.getElem?_eq_none hge] at this
theorem NamesAt.lt {Bs : Nat} {A : Option Addr} {c : Nat} {ss : List ByteArray} {W : World} (h : NamesAt Bs A c ss W) : Bs < W.heap.size := by
  rcases Nat.lt_or_ge Bs W.heap.size with hlt | hge
  · exact hlt
  · have := h.1; simp [World.cell?, Array.getElem?_eq_none hge] at this
def KeepsN (Bs : Nat) (A : Option Addr) (c : Nat) (ss : List ByteArray) (W W' : World) : Prop := NamesAt Bs A c ss W → NamesAt Bs A c ss W'
theorem KeepsN.t {Bs : Nat} {A : Option Addr} {c : Nat} {ss : List ByteArray} {X Y Z : World} (h : KeepsN Bs A c ss X Y) (k : KeepsN Bs A c ss Y Z) : KeepsN Bs A c ss X Z := fun q => k (h q)
theorem KeepsN.b {Bs : Nat} {A : Option Addr} {c : Nat} {ss : List ByteArray} {w : World} (W : World) (l : Nat) (o o' : Obj) (_ : w.heap.size ≤ l) (h : W.heap[l]? = some o) (ho : o.isCells = false) (_ : o.isWalk = false) : KeepsN Bs A c ss W (W.putObj l o') := fun q =>
  q.grown (grownBy_putObj' _ l o') (fun r e => by cases e; exact ⟨_, h, ho⟩)

set_option maxRecDepth 100000 in
set_option maxHeartbeats 2000000 in
theorem back1_in (F : Fence) (n : Nat) (hf : F.fn 158) (hro : F.round = none) (hn : 1 ≤ n) (l Bs : Nat) (A : Option Addr) (c : Nat) (ss : List ByteArray) (hl : ss.length ≤ 2 ^ 40) (J Jx : List (Fin ss.length) → World → Prop)
    (hY : ∀ pre (x : Fin ss.length) W, J pre W → pre.length < ss.length → YieldAt F (n - 1) Tryz.prog l #[.int .i64 (x.1 : Int), .string ss[x.1]] W fun e W' =>
      (e = .returned (.bool true) ∧ J (pre ++ [x]) W' ∧ KeepsN Bs A c ss W W') ∨ (e = .returned (.bool false) ∧ Jx (pre ++ [x]) W'))
    (W : World) (hN : NamesAt Bs A c ss W) (h0 : J [] W) :
    CallsIn F n Tryz.prog 158 #[.func (.yield l) #[] #[], .pointer (some ⟨Bs, 0, none⟩)] W fun e W' => (∃ v, e = .returned v) ∧
      ((∃ ys, ys = downs ss.length ss.length (Nat.le_refl _) ∧ J ys W') ∨ (∃ pre, pre <+: downs ss.length ss.length (Nat.le_refl _) ∧ Jx pre W')) := by
  have hcb := hN.1
  refine callsIn_of_wp Tryz.func158 rfl hf ?_ hro
  simp only [Tryz.ntmps158, List.size_toArray, List.length_cons, List.length_nil, Nat.reduceAdd, Nat.reduceSub, Array.replicate_succ, Array.replicate_zero, List.push_toArray, List.append_toArray, List.nil_append, List.cons_append]
  gi_wp2
  gi_loopw [3] (fun d wr => ∃ (pre : List (Fin ss.length)) (k : Nat) (hk : k ≤ ss.length), d = .int .i64 ((k : Int) - 1) ∧ downs ss.length ss.length (Nat.le_refl _) = pre ++ downs ss.length k hk ∧ pre.length + k = ss.length ∧ J pre wr ∧ NamesAt Bs A c ss wr)
    (fun d _ => (intOf d + 1).toNat)
  case atStart => exact ⟨[], ss.length, Nat.le_refl _, by go_num, rfl, by simp, h0, hN⟩
  case round =>
    obtain ⟨pre, k, hk, rfl, hx, hpl, hJs, hNx⟩ := hrel
    have HX := Lib.hid hx; clear hx
    clear hcb
    have hcb := hNx.1
    rcases k with _ | k
    · have q : ((0 : Nat) : Int) - 1 = -1 := rfl
      rw [q]
      gi_wp2
      go_end0
      exact ⟨⟨_, rfl⟩, .inl ⟨_, by rw [HX.out]; simp [downs], hJs⟩⟩
    · have q : ((k + 1 : Nat) : Int) - 1 = (k : Int) := by omega
      rw [q]
      have hkl : k < ss.length := hk
      obtain ⟨g, off, rfl, hg, hc⟩ := hNx.2.at_ (k := k) (by simpa using hkl)
      simp only [List.getElem_map, strV] at hc
      have HF := Lib.hid (show downs ss.length ss.length (Nat.le_refl _) = (pre ++ [⟨k, hkl⟩]) ++ downs ss.length k (by omega) by rw [HX.out]; simp [downs])
      clear HX
      obtain ⟨fn, tmps, assign, body, hy, hR⟩ := hY pre ⟨k, hkl⟩ wr hJs (by omega)
      dsimp only at hy
      have HNX := Lib.hid hNx
      clear hNx
      generalize ss[k] = t at *
      gi_wp2
      refine hR.mono ?_
      rintro e W3 (⟨rfl, hJ3, hk3⟩ | ⟨rfl, hJx3⟩)
      · gi_wp2
        go_roundw
        case rel => exact ⟨pre ++ [⟨k, hkl⟩], k, by omega, by go_num, HF.out, by simp; omega, hJ3, hk3 HNX.out⟩
        case measure => simp [intOf]
      · gi_wp2
        refine bodyPost_ret (results_none rfl _ _ _) rfl ?_
        exact ⟨⟨_, rfl⟩, .inr ⟨pre ++ [⟨k, hkl⟩], ⟨downs ss.length k (by omega), HF.out.symm⟩, hJx3⟩⟩

set_option maxHeartbeats 1000000 in
/-- Backward(s): the slice is boxed; the function value captures the box. -/
theorem back_in (F : Fence) (n : Nat) (hf : F.fn 129) (hro : F.round = none) (A : Option Addr) (m c : Nat) (w : World) :
    CallsIn F n Tryz.prog 129 #[.slice A m c] w fun e w' => e = .returned (.func (.func 158) #[] #[.pointer (some ⟨w.heap.size, 0, none⟩)]) ∧ w' = w.alloc (.cells #[.slice A m c] 27) := by
  refine callsIn_of_wp Tryz.func129 rfl hf ?_ hro
  simp only [Tryz.ntmps129, List.size_toArray, List.length_cons, List.length_nil, Nat.reduceAdd, Nat.reduceSub, Array.replicate_succ, Array.replicate_zero, List.push_toArray, List.append_toArray, List.nil_append, List.cons_append]
  gi_wp2
  go_ret
  exact ⟨rfl, rfl⟩

theorem back_stops (F : Fence) (n : Nat) (hf : F.fn 158) (hro : F.round = none) (hn : 1 ≤ n) (Bs : Nat) (A : Option Addr) (c : Nat) (ss : List ByteArray) (hl : ss.length ≤ 2 ^ 40) (w : World) (hN : NamesAt Bs A c ss w) :
    SeqStopsK F n Tryz.prog 158 #[.pointer (some ⟨Bs, 0, none⟩)] (fun x : Fin ss.length => #[Value.int .i64 (x.1 : Int), .string ss[x.1]]) (KeepsN Bs A c ss) (fun ys => ys = downs ss.length ss.length (Nat.le_refl _)) (fun pre => pre <+: downs ss.length ss.length (Nat.le_refl _)) ss.length w := fun l J Jx W hW _ _ hY h0 =>
  back1_in F n hf hro hn l Bs A c ss hl J Jx hY W (hN.below hW) h0
end Go.Proofs.YtkfnbakhbbcfcaaGreatDoor

namespace Go.Proofs.YtkfnbakhbbcfcaaGreatDoor
open Go.RowKit

def intV (z : Int) : Value := .int .i64 z
theorem infoInt : (Tryz.prog.info? 3).map (fun i => (i.zero, i.size, i.bytes)) = some (some (.int .i64 0), 1, 8) := by kernel_rfl

/-- A slice of numbers that came in. -/
def IsInts (w : World) (a : Option Addr) (len : Nat) (zs : List Int) : Prop := zs.length = len ∧ len ≤ maxLen ∧ SlIs w a (zs.map intV) ∧ ∀ z ∈ zs, (Lit.int .i64 z).wf = true
theorem isInts_nil (w : World) : IsInts w none 0 [] := ⟨rfl, by simp [maxLen], .inl rfl, by simp⟩
theorem isInts_of {w : World} {a : Addr} {len cap : Nat} {zs : List Int} (hl : len ≤ cap) (hm : cap ≤ maxLen) (hz : zs.length = cap) (hc : ∀ i, i < zs.length → w.cell? (a.add i) = some (.int .i64 (zs.getD i 0))) (hw : ∀ z ∈ zs, (Lit.int .i64 z).wf = true) :
    IsInts w (some a) len (zs.take len) := by
  refine ⟨by simp; omega, by omega, ?_, fun z h => hw z (List.mem_of_mem_take h)⟩
  by_cases h0 : len = 0
  · subst h0; exact .inl (by simp)
  · obtain ⟨b, off, spot⟩ := a
    have hspot : spot = none := by simpa [Addr.add] using World.cell?_spot (hc 0 (by omega))
    subst hspot
    have hb : b < w.heap.size := by
      have h1 := hc 0 (by omega)
      rcases Nat.lt_or_ge b w.heap.size with h | h
      · exact h
      · simp [World.cell?, Addr.add, Array.getElem?_eq_none h] at h1
    refine .inr ⟨b, off, rfl, hb, fun j u hu => ?_⟩
    have hj : j < len := by
      have := (List.getElem?_eq_some_iff.1 hu).1
      simp at this
      omega
    have h2 := hc j (by omega)
    rw [Go.WideShapes.add_plain] at h2
    rw [h2]
    rw [List.getElem?_map, List.getElem?_take_of_lt hj, List.getElem?_eq_getElem (by omega)] at hu
    simp [intV] at hu
    rw [← hu]
    simp [List.getD, show j < zs.length from by omega]


end Go.Proofs.YtkfnbakhbbcfcaaGreatDoor

namespace Go.Proofs.YtkfnbakhbbcfcaaGreatDoor
open Go.RowKit Go.Shelf
attribute [local go_sem] Oper.semAt_some

def lastI (ss : List ByteArray) (vs : List Int) (s : ByteArray) : Int := match lastOf ss s with
  | some i => vs.getD i 0
  | none => 0
set_option maxRecDepth 100000 in
set_option maxHeartbeats 2000000 in
theorem told_int (Bn Bv : Nat) (A : Option Addr) (c : Nat) (ss : List ByteArray) (A' : Option Addr) (c' : Nat) (vs : List Int) (s : ByteArray) (w : World) (hl : ss.length ≤ 2 ^ 40) (hlen : ss.length = vs.length) (hN : NamesAt Bn A c ss w) (hV : w.cell? ⟨Bv, 0, none⟩ = some (.slice A' vs.length c')) (hVs : SlIs w A' (vs.map intV)) :
    Calls Tryz.prog 128 #[.string s, .pointer (some ⟨Bn, 0, none⟩), .pointer (some ⟨Bv, 0, none⟩)] w fun e w' => e = .returned (.tuple #[.int .i64 (lastI ss vs s), .bool (lastOf ss s).isSome]) ∧ Below w.heap.size w w' := by
  refine (callsIn_wide (n := 4)).1 ?_
  have hro : Fence.wide.round = none := rfl
  obtain ⟨W0, hW0⟩ : ∃ W0, W0 = (((w.alloc (.cells #[.string s] 9)).alloc (.cells #[.int .i64 0] 3)).alloc (.cells #[.bool false] 4)).alloc (.cells #[.slice A ss.length c] 27) := ⟨_, rfl⟩
  have hb0 : Below w.heap.size w W0 := by rw [hW0]; exact ((((Below.refl _ w).alloc (Nat.le_refl _) _).alloc (by simp) _).alloc (by simp; omega) _).alloc (by simp; omega) _
  have hs0 : W0.heap.size = w.heap.size + 4 := by rw [hW0]; simp
  have bS : Boxed W0 w.heap.size 9 (.string s) := by rw [hW0]; exact (((Boxed.new w 9 (.string s)).alloc _).alloc _).alloc _
  have bR : Boxed W0 (w.heap.size + 1) 3 (.int .i64 0) := by
    have := Boxed.new (w.alloc (.cells #[.string s] 9)) 3 (.int .i64 0)
    rw [World.size_alloc] at this
    rw [hW0]; exact (this.alloc _).alloc _
  have bO : Boxed W0 (w.heap.size + 1 + 1) 4 (.bool false) := by
    have := Boxed.new ((w.alloc (.cells #[.string s] 9)).alloc (.cells #[.int .i64 0] 3)) 4 (.bool false)
    rw [World.size_alloc, World.size_alloc] at this
    rw [hW0]; exact this.alloc _
  have bN : Boxed W0 (w.heap.size + 1 + 1 + 1) 27 (.slice A ss.length c) := by
    have := Boxed.new (((w.alloc (.cells #[.string s] 9)).alloc (.cells #[.int .i64 0] 3)).alloc (.cells #[.bool false] 4)) 27 (.slice A ss.length c)
    rw [World.size_alloc, World.size_alloc, World.size_alloc] at this
    rw [hW0]; exact this
  have hNB : NamesAt (w.heap.size + 1 + 1 + 1) A c ss W0 := ⟨bN.cell, hN.2.below hb0⟩
  have hcn : (((w.alloc (.cells #[.string s] 9)).alloc (.cells #[.int .i64 0] 3)).alloc (.cells #[.bool false] 4)).cell? ⟨Bn, 0, none⟩ = some (.slice A ss.length c) :=
    ((((Below.refl _ w).alloc (Nat.le_refl _) _).alloc (by simp) _).alloc (by simp; omega) _ : Below w.heap.size w _).cell (p := ⟨Bn, 0, none⟩) hN.lt |>.trans hN.1
  have hBv : Bv < w.heap.size := by
    rcases Nat.lt_or_ge Bv w.heap.size with h | h
    · exact h
    · simp [World.cell?, Array.getElem?_eq_none h] at hV
  have HVs := Lib.hid hVs
  have HNA := Lib.hid hNB
  have HL := Lib.hid hlen
  clear hVs hN hNB hlen
  refine callsIn_of_wp_marks Tryz.func128 rfl trivial ?_ hro
  simp only [Tryz.ntmps128, List.size_toArray, List.length_cons, List.length_nil, Nat.reduceAdd, Nat.reduceSub, Array.replicate_succ, Array.replicate_zero, List.push_toArray, List.append_toArray, List.nil_append, List.cons_append]
  gi_wp2_with (refine ⟨trivial, ?_⟩; gi_at_call 129; refine (back_in Fence.wide _ trivial hro _ _ _ _).mono ?_; rintro e w' ⟨rfl, rfl⟩)
  rw [← hW0]
  refine wpIn_rangeFunc_ownG hro (by omega) (gf := 158) (lb := #[.pointer (some ⟨w.heap.size + 1 + 1 + 1, 0, none⟩)]) rfl trivial (enters_of Tryz.func158 (by kernel_rfl) rfl)
    (back_stops Fence.wide (4 - 1) trivial hro (by omega) (w.heap.size + 1 + 1 + 1) A c ss hl W0 HNA.out) KeepsN.t KeepsN.b (Below.refl _ _) (fun _ => rfl)
    (fun pre W => (noneIs ss s pre ∧ Boxed W w.heap.size 9 (.string s) ∧ Boxed W (w.heap.size + 1) 3 (.int .i64 0) ∧ Boxed W (w.heap.size + 1 + 1) 4 (.bool false)) ∧ Below w.heap.size w W)
    (fun cc pre W => (cc = .ret ∧ (∃ (p' : List (Fin ss.length)) (i : Fin ss.length), pre = p' ++ [i] ∧ noneIs ss s p' ∧ ss[i.1] = s ∧ Boxed W (w.heap.size + 1) 3 (.int .i64 (vs.getD i.1 0))) ∧ Boxed W (w.heap.size + 1 + 1) 4 (.bool true)) ∧ Below w.heap.size w W)
    (OwnFrom.and (Own.from (fun s0 X Y row hs hg hr => ⟨hs.1, boxed_own w.heap.size 9 (fun _ => .string s) s0 X Y row hs.2.1 hg hr, boxed_own (w.heap.size + 1) 3 (fun _ => .int .i64 0) s0 X Y row hs.2.2.1 hg hr, boxed_own (w.heap.size + 1 + 1) 4 (fun _ => .bool false) s0 X Y row hs.2.2.2 hg hr⟩) _) (ownFrom_below (Nat.le_refl _) (by omega)))
    (fun cc => OwnFrom.and (Own.from (fun s0 X Y row hs hg hr => ⟨hs.1, (by obtain ⟨p', i, q1, q2, q3, q4⟩ := hs.2.1; exact ⟨p', i, q1, q2, q3, boxed_own (w.heap.size + 1) 3 (fun _ => .int .i64 (vs.getD i.1 0)) s0 X Y row q4 hg hr⟩), boxed_own (w.heap.size + 1 + 1) 4 (fun _ => .bool true) s0 X Y row hs.2.2 hg hr⟩) _) (ownFrom_below (Nat.le_refl _) (by omega)))
    ⟨⟨(fun i hi => by cases hi), bS, bR, bO⟩, hb0⟩
    (fun x => { tmps := #[.string s, .pointer (some ⟨Bn, 0, none⟩), .pointer (some ⟨Bv, 0, none⟩), .pointer (some ⟨w.heap.size, 0, none⟩), .pointer (some ⟨w.heap.size + 1, 0, none⟩), .pointer (some ⟨w.heap.size + 1 + 1, 0, none⟩), .int .i64 (x.1 : Int), .string ss[x.1], undef, .slice A ss.length c, .func (.func 158) #[] #[.pointer (some ⟨w.heap.size + 1 + 1 + 1, 0, none⟩)], .int .i64 (x.1 : Int), .string ss[x.1], undef, undef, undef, undef, undef, undef, undef, undef], defers := [] }) ?assign ?body ?done ?stop
  case assign =>
    intro l x W K hK
    gi_wp2
    exact hK
  case body =>
    rintro l pre x W ⟨⟨hp, hS, hR, hO⟩, hB⟩ _
    have HP := Lib.hid hp; clear hp
    have cS := hS.cell
    have cV := (hB.cell (p := ⟨Bv, 0, none⟩) hBv).trans hV
    have cR := hR.cell
    have fR := hR.frozen
    have cO := hO.cell
    have fO := hO.frozen
    have hxl : x.1 < vs.length := by have := x.2; have := HL.out; omega
    obtain ⟨g, off, rfl, hg, hc⟩ := HVs.out.at_ (k := x.1) (by simpa using hxl)
    simp only [List.getElem_map, intV] at hc
    have cG := (hB.cell (p := ⟨g, off + x.1, none⟩) hg).trans hc
    have HG := Lib.hid (show vs.getD x.1 0 = vs[x.1] by simp [List.getD, hxl])
    by_cases he : ss[x.1] = s
    · have HE := Lib.hid he
      have q : (ss[x.1].toList == s.toList) = true := by rw [he]; simp
      clear hc he
      generalize vs[x.1] = v at *
      generalize hT : ss[x.1] = t at *
      have HT := Lib.hid hT
      clear hT
      gi_wp2
      refine ⟨((KeepsOthers.setCell _ _ _).trans (KeepsOthers.setCell _ _ _)).from _, ⟨rfl, ⟨pre, x, rfl, HP.out, ?_, ?_⟩, ?_⟩, ?_⟩
      · exact HT.out.trans HE.out
      · rw [HG.out]; exact (hR.set _).other (by omega) _
      · exact (hO.other (by omega) _).set _
      · exact (hB.setCell (p := ⟨w.heap.size + 1, 0, none⟩) (by show w.heap.size ≤ w.heap.size + 1; omega) _).setCell (p := ⟨w.heap.size + 1 + 1, 0, none⟩) (by show w.heap.size ≤ w.heap.size + 1 + 1; omega) _
    · have q : (ss[x.1].toList == s.toList) = false := by
        rw [beq_eq_false_iff_ne]; intro h; rw [ByteArray.toList_eq, ByteArray.toList_eq] at h; exact he (ByteArray.ext (Array.toList_inj.1 h))
      have HE := Lib.hid (show noneIs ss s (pre ++ [x]) from fun i hi => by
        rcases List.mem_append.1 hi with h | h
        · exact HP.out i h
        · rw [List.mem_singleton.1 h]; exact he)
      clear hc he
      generalize vs[x.1] = v at *
      generalize ss[x.1] = t at *
      gi_wp2
      exact ⟨KeepsFrom.refl _ _, fun h => h, ⟨HE.out, hS, hR, hO⟩, hB⟩
  case done =>
    rintro D ys W hD rfl ⟨⟨hn, hS, hR, hO⟩, hB⟩ hK
    have hno : lastOf ss s = none := downs_none _ _ hn
    have HF := Lib.hid (show lastI ss vs s = 0 by unfold lastI; rw [hno])
    have HF2 := Lib.hid (show (lastOf ss s).isSome = false by rw [hno]; rfl)
    clear hno hn
    have cR := hR.cell
    have fR := hR.frozen
    have cO := hO.cell
    have fO := hO.frozen
    gi_wp2
    have hK' := ((KeepsOthers.setCell W ⟨w.heap.size + 1, 0, none⟩ (.int .i64 0)).trans (KeepsOthers.setCell _ ⟨w.heap.size + 1 + 1, 0, none⟩ (.bool false))).same D _ hK rfl
    refine ⟨by simp, .inl ⟨_, _, rfl, run_takeDeferred hK', ?_⟩⟩
    have hc5 := cell_kept ((hR.set (.int .i64 0)).other (show w.heap.size + 1 ≠ w.heap.size + 1 + 1 by omega) (.bool false)).cell (grownBy_putObj' _ D (.deferred none)) (fun r e => by cases e; exact ⟨_, hK', rfl⟩)
    have hc6 := cell_kept ((hO.other (show w.heap.size + 1 + 1 ≠ w.heap.size + 1 by omega) (.int .i64 0)).set (.bool false)).cell (grownBy_putObj' _ D (.deferred none)) (fun r e => by cases e; exact ⟨_, hK', rfl⟩)
    refine ⟨.tuple #[.int .i64 0, .bool false], ?_, by rw [HF.out, HF2.out] <;> rfl, ((hB.setCell (p := ⟨w.heap.size + 1, 0, none⟩) (by show w.heap.size ≤ w.heap.size + 1; omega) _).setCell (p := ⟨w.heap.size + 1 + 1, 0, none⟩) (by show w.heap.size ≤ w.heap.size + 1 + 1; omega) _).trans (belowK_b (w := w) (Nat.le_refl _) _ D _ _ (by omega) hK' rfl rfl)⟩
    simp [results, Tryz.results128, go_sem, hc5, hc6]
  case stop =>
    rintro D cc pre W hD hpre ⟨⟨rfl, ⟨p', i, rfl, q2, q3, hR⟩, hO⟩, hB⟩ hK
    have hso : lastOf ss s = some i.1 := downs_some q3 _ _ p' hpre q2
    have HF := Lib.hid (show lastI ss vs s = vs.getD i.1 0 by unfold lastI; rw [hso])
    have HF2 := Lib.hid (show (lastOf ss s).isSome = true by rw [hso]; rfl)
    clear hso q2 q3 hpre
    gi_wp2
    refine ⟨by simp, .inl ⟨_, _, rfl, run_takeDeferred hK, ?_⟩⟩
    have hc5 := cell_kept hR.cell (grownBy_putObj' _ D (.deferred none)) (fun r e => by cases e; exact ⟨_, hK, rfl⟩)
    have hc6 := cell_kept hO.cell (grownBy_putObj' _ D (.deferred none)) (fun r e => by cases e; exact ⟨_, hK, rfl⟩)
    refine ⟨.tuple #[.int .i64 (vs.getD i.1 0), .bool true], ?_, by rw [HF.out, HF2.out], hB.trans (belowK_b (w := w) (Nat.le_refl _) W D _ _ (by omega) hK rfl rfl)⟩
    simp [results, Tryz.results128, go_sem, hc5, hc6]

def lastS (ss : List ByteArray) (vs : List ByteArray) (s : ByteArray) : ByteArray := match lastOf ss s with
  | some i => vs.getD i ByteArray.empty
  | none => ByteArray.empty
set_option maxRecDepth 100000 in
set_option maxHeartbeats 2000000 in
theorem told_string (Bn Bv : Nat) (A : Option Addr) (c : Nat) (ss : List ByteArray) (A' : Option Addr) (c' : Nat) (vs : List ByteArray) (s : ByteArray) (w : World) (hl : ss.length ≤ 2 ^ 40) (hlen : ss.length = vs.length) (hN : NamesAt Bn A c ss w) (hV : w.cell? ⟨Bv, 0, none⟩ = some (.slice A' vs.length c')) (hVs : SlIs w A' (vs.map strV)) :
    Calls Tryz.prog 136 #[.string s, .pointer (some ⟨Bn, 0, none⟩), .pointer (some ⟨Bv, 0, none⟩)] w fun e w' => e = .returned (.tuple #[.string (lastS ss vs s), .bool (lastOf ss s).isSome]) ∧ Below w.heap.size w w' := by
  refine (callsIn_wide (n := 4)).1 ?_
  have hro : Fence.wide.round = none := rfl
  obtain ⟨W0, hW0⟩ : ∃ W0, W0 = (((w.alloc (.cells #[.string s] 9)).alloc (.cells #[.string ⟨#[]⟩] 9)).alloc (.cells #[.bool false] 4)).alloc (.cells #[.slice A ss.length c] 27) := ⟨_, rfl⟩
  have hb0 : Below w.heap.size w W0 := by rw [hW0]; exact ((((Below.refl _ w).alloc (Nat.le_refl _) _).alloc (by simp) _).alloc (by simp; omega) _).alloc (by simp; omega) _
  have hs0 : W0.heap.size = w.heap.size + 4 := by rw [hW0]; simp
  have bS : Boxed W0 w.heap.size 9 (.string s) := by rw [hW0]; exact (((Boxed.new w 9 (.string s)).alloc _).alloc _).alloc _
  have bR : Boxed W0 (w.heap.size + 1) 9 (.string ⟨#[]⟩) := by
    have := Boxed.new (w.alloc (.cells #[.string s] 9)) 9 (.string ⟨#[]⟩)
    rw [World.size_alloc] at this
    rw [hW0]; exact (this.alloc _).alloc _
  have bO : Boxed W0 (w.heap.size + 1 + 1) 4 (.bool false) := by
    have := Boxed.new ((w.alloc (.cells #[.string s] 9)).alloc (.cells #[.string ⟨#[]⟩] 9)) 4 (.bool false)
    rw [World.size_alloc, World.size_alloc] at this
    rw [hW0]; exact this.alloc _
  have bN : Boxed W0 (w.heap.size + 1 + 1 + 1) 27 (.slice A ss.length c) := by
    have := Boxed.new (((w.alloc (.cells #[.string s] 9)).alloc (.cells #[.string ⟨#[]⟩] 9)).alloc (.cells #[.bool false] 4)) 27 (.slice A ss.length c)
    rw [World.size_alloc, World.size_alloc, World.size_alloc] at this
    rw [hW0]; exact this
  have hNB : NamesAt (w.heap.size + 1 + 1 + 1) A c ss W0 := ⟨bN.cell, hN.2.below hb0⟩
  have hcn : (((w.alloc (.cells #[.string s] 9)).alloc (.cells #[.string ⟨#[]⟩] 9)).alloc (.cells #[.bool false] 4)).cell? ⟨Bn, 0, none⟩ = some (.slice A ss.length c) :=
    ((((Below.refl _ w).alloc (Nat.le_refl _) _).alloc (by simp) _).alloc (by simp; omega) _ : Below w.heap.size w _).cell (p := ⟨Bn, 0, none⟩) hN.lt |>.trans hN.1
  have hBv : Bv < w.heap.size := by
    rcases Nat.lt_or_ge Bv w.heap.size with h | h
    · exact h
    · simp [World.cell?, Array.getElem?_eq_none h] at hV
  have HVs := Lib.hid hVs
  have HNA := Lib.hid hNB
  have HL := Lib.hid hlen
  clear hVs hN hNB hlen
  refine callsIn_of_wp_marks Tryz.func136 rfl trivial ?_ hro
  simp only [Tryz.ntmps136, List.size_toArray, List.length_cons, List.length_nil, Nat.reduceAdd, Nat.reduceSub, Array.replicate_succ, Array.replicate_zero, List.push_toArray, List.append_toArray, List.nil_append, List.cons_append]
  gi_wp2_with (refine ⟨trivial, ?_⟩; gi_at_call 129; refine (back_in Fence.wide _ trivial hro _ _ _ _).mono ?_; rintro e w' ⟨rfl, rfl⟩)
  rw [← hW0]
  refine wpIn_rangeFunc_ownG hro (by omega) (gf := 158) (lb := #[.pointer (some ⟨w.heap.size + 1 + 1 + 1, 0, none⟩)]) rfl trivial (enters_of Tryz.func158 (by kernel_rfl) rfl)
    (back_stops Fence.wide (4 - 1) trivial hro (by omega) (w.heap.size + 1 + 1 + 1) A c ss hl W0 HNA.out) KeepsN.t KeepsN.b (Below.refl _ _) (fun _ => rfl)
    (fun pre W => (noneIs ss s pre ∧ Boxed W w.heap.size 9 (.string s) ∧ Boxed W (w.heap.size + 1) 9 (.string ⟨#[]⟩) ∧ Boxed W (w.heap.size + 1 + 1) 4 (.bool false)) ∧ Below w.heap.size w W)
    (fun cc pre W => (cc = .ret ∧ (∃ (p' : List (Fin ss.length)) (i : Fin ss.length), pre = p' ++ [i] ∧ noneIs ss s p' ∧ ss[i.1] = s ∧ Boxed W (w.heap.size + 1) 9 (.string (vs.getD i.1 ByteArray.empty))) ∧ Boxed W (w.heap.size + 1 + 1) 4 (.bool true)) ∧ Below w.heap.size w W)
    (OwnFrom.and (Own.from (fun s0 X Y row hs hg hr => ⟨hs.1, boxed_own w.heap.size 9 (fun _ => .string s) s0 X Y row hs.2.1 hg hr, boxed_own (w.heap.size + 1) 9 (fun _ => .string ⟨#[]⟩) s0 X Y row hs.2.2.1 hg hr, boxed_own (w.heap.size + 1 + 1) 4 (fun _ => .bool false) s0 X Y row hs.2.2.2 hg hr⟩) _) (ownFrom_below (Nat.le_refl _) (by omega)))
    (fun cc => OwnFrom.and (Own.from (fun s0 X Y row hs hg hr => ⟨hs.1, (by obtain ⟨p', i, q1, q2, q3, q4⟩ := hs.2.1; exact ⟨p', i, q1, q2, q3, boxed_own (w.heap.size + 1) 9 (fun _ => .string (vs.getD i.1 ByteArray.empty)) s0 X Y row q4 hg hr⟩), boxed_own (w.heap.size + 1 + 1) 4 (fun _ => .bool true) s0 X Y row hs.2.2 hg hr⟩) _) (ownFrom_below (Nat.le_refl _) (by omega)))
    ⟨⟨(fun i hi => by cases hi), bS, bR, bO⟩, hb0⟩
    (fun x => { tmps := #[.string s, .pointer (some ⟨Bn, 0, none⟩), .pointer (some ⟨Bv, 0, none⟩), .pointer (some ⟨w.heap.size, 0, none⟩), .pointer (some ⟨w.heap.size + 1, 0, none⟩), .pointer (some ⟨w.heap.size + 1 + 1, 0, none⟩), .int .i64 (x.1 : Int), .string ss[x.1], undef, .slice A ss.length c, .func (.func 158) #[] #[.pointer (some ⟨w.heap.size + 1 + 1 + 1, 0, none⟩)], .int .i64 (x.1 : Int), .string ss[x.1], undef, undef, undef, undef, undef, undef, undef, undef], defers := [] }) ?assign ?body ?done ?stop
  case assign =>
    intro l x W K hK
    gi_wp2
    exact hK
  case body =>
    rintro l pre x W ⟨⟨hp, hS, hR, hO⟩, hB⟩ _
    have HP := Lib.hid hp; clear hp
    have cS := hS.cell
    have cV := (hB.cell (p := ⟨Bv, 0, none⟩) hBv).trans hV
    have cR := hR.cell
    have fR := hR.frozen
    have cO := hO.cell
    have fO := hO.frozen
    have hxl : x.1 < vs.length := by have := x.2; have := HL.out; omega
    obtain ⟨g, off, rfl, hg, hc⟩ := HVs.out.at_ (k := x.1) (by simpa using hxl)
    simp only [List.getElem_map, strV] at hc
    have cG := (hB.cell (p := ⟨g, off + x.1, none⟩) hg).trans hc
    have HG := Lib.hid (show vs.getD x.1 ByteArray.empty = vs[x.1] by simp [List.getD, hxl])
    by_cases he : ss[x.1] = s
    · have HE := Lib.hid he
      have q : (ss[x.1].toList == s.toList) = true := by rw [he]; simp
      clear hc he
      generalize vs[x.1] = v at *
      generalize hT : ss[x.1] = t at *
      have HT := Lib.hid hT
      clear hT
      gi_wp2
      refine ⟨((KeepsOthers.setCell _ _ _).trans (KeepsOthers.setCell _ _ _)).from _, ⟨rfl, ⟨pre, x, rfl, HP.out, ?_, ?_⟩, ?_⟩, ?_⟩
      · exact HT.out.trans HE.out
      · rw [HG.out]; exact (hR.set _).other (by omega) _
      · exact (hO.other (by omega) _).set _
      · exact (hB.setCell (p := ⟨w.heap.size + 1, 0, none⟩) (by show w.heap.size ≤ w.heap.size + 1; omega) _).setCell (p := ⟨w.heap.size + 1 + 1, 0, none⟩) (by show w.heap.size ≤ w.heap.size + 1 + 1; omega) _
    · have q : (ss[x.1].toList == s.toList) = false := by
        rw [beq_eq_false_iff_ne]; intro h; rw [ByteArray.toList_eq, ByteArray.toList_eq] at h; exact he (ByteArray.ext (Array.toList_inj.1 h))
      have HE := Lib.hid (show noneIs ss s (pre ++ [x]) from fun i hi => by
        rcases List.mem_append.1 hi with h | h
        · exact HP.out i h
        · rw [List.mem_singleton.1 h]; exact he)
      clear hc he
      generalize vs[x.1] = v at *
      generalize ss[x.1] = t at *
      gi_wp2
      exact ⟨KeepsFrom.refl _ _, fun h => h, ⟨HE.out, hS, hR, hO⟩, hB⟩
  case done =>
    rintro D ys W hD rfl ⟨⟨hn, hS, hR, hO⟩, hB⟩ hK
    have hno : lastOf ss s = none := downs_none _ _ hn
    have HF := Lib.hid (show lastS ss vs s = ByteArray.empty by unfold lastS; rw [hno])
    have HF2 := Lib.hid (show (lastOf ss s).isSome = false by rw [hno]; rfl)
    clear hno hn
    have cR := hR.cell
    have fR := hR.frozen
    have cO := hO.cell
    have fO := hO.frozen
    gi_wp2
    have hK' := ((KeepsOthers.setCell W ⟨w.heap.size + 1, 0, none⟩ (.string ⟨#[]⟩)).trans (KeepsOthers.setCell _ ⟨w.heap.size + 1 + 1, 0, none⟩ (.bool false))).same D _ hK rfl
    refine ⟨by simp, .inl ⟨_, _, rfl, run_takeDeferred hK', ?_⟩⟩
    have hc5 := cell_kept ((hR.set (.string ⟨#[]⟩)).other (show w.heap.size + 1 ≠ w.heap.size + 1 + 1 by omega) (.bool false)).cell (grownBy_putObj' _ D (.deferred none)) (fun r e => by cases e; exact ⟨_, hK', rfl⟩)
    have hc6 := cell_kept ((hO.other (show w.heap.size + 1 + 1 ≠ w.heap.size + 1 by omega) (.string ⟨#[]⟩)).set (.bool false)).cell (grownBy_putObj' _ D (.deferred none)) (fun r e => by cases e; exact ⟨_, hK', rfl⟩)
    refine ⟨.tuple #[.string ⟨#[]⟩, .bool false], ?_, by rw [HF.out, HF2.out] <;> rfl, ((hB.setCell (p := ⟨w.heap.size + 1, 0, none⟩) (by show w.heap.size ≤ w.heap.size + 1; omega) _).setCell (p := ⟨w.heap.size + 1 + 1, 0, none⟩) (by show w.heap.size ≤ w.heap.size + 1 + 1; omega) _).trans (belowK_b (w := w) (Nat.le_refl _) _ D _ _ (by omega) hK' rfl rfl)⟩
    simp [results, Tryz.results136, go_sem, hc5, hc6]
  case stop =>
    rintro D cc pre W hD hpre ⟨⟨rfl, ⟨p', i, rfl, q2, q3, hR⟩, hO⟩, hB⟩ hK
    have hso : lastOf ss s = some i.1 := downs_some q3 _ _ p' hpre q2
    have HF := Lib.hid (show lastS ss vs s = vs.getD i.1 ByteArray.empty by unfold lastS; rw [hso])
    have HF2 := Lib.hid (show (lastOf ss s).isSome = true by rw [hso]; rfl)
    clear hso q2 q3 hpre
    gi_wp2
    refine ⟨by simp, .inl ⟨_, _, rfl, run_takeDeferred hK, ?_⟩⟩
    have hc5 := cell_kept hR.cell (grownBy_putObj' _ D (.deferred none)) (fun r e => by cases e; exact ⟨_, hK, rfl⟩)
    have hc6 := cell_kept hO.cell (grownBy_putObj' _ D (.deferred none)) (fun r e => by cases e; exact ⟨_, hK, rfl⟩)
    refine ⟨.tuple #[.string (vs.getD i.1 ByteArray.empty), .bool true], ?_, by rw [HF.out, HF2.out], hB.trans (belowK_b (w := w) (Nat.le_refl _) W D _ _ (by omega) hK rfl rfl)⟩
    simp [results, Tryz.results136, go_sem, hc5, hc6]
end Go.Proofs.YtkfnbakhbbcfcaaGreatDoor

namespace Go.Proofs.YtkfnbakhbbcfcaaGreatDoor
open Go.RowKit

set_option maxHeartbeats 1000000 in
theorem cutNumber_any (n : Int) (w : World) : Calls Tryz.prog 232 #[.int .i64 n] w fun e w' => e = .returned (.int .i64 (cutN n)) ∧ w = w' := by
  have HF := Lib.hid (show cutN n = min (max n (-1000000)) 1000000 by unfold cutN; omega)
  go_enter Tryz.func232, Tryz.ntmps232
  go_wp2_with fail
  all_goals (go_ret; exact ⟨ret_int (by rw [HF.out] <;> omega), rfl⟩)

set_option maxRecDepth 100000 in
set_option maxHeartbeats 1000000 in
theorem reckon_any (s : ByteArray) (a b : Int) (w : World) (ha0 : -1000000 ≤ a) (ha1 : a ≤ 1000000) (hb0 : -1000000 ≤ b) (hb1 : b ≤ 1000000) : Calls Tryz.prog 230 #[.string s, .int .i64 a, .int .i64 b] w fun e w' => e = .returned (.int .i64 (twoN s a b)) ∧ w = w' := by
  obtain ⟨hm0, hm1⟩ := mul_bounds ha0 ha1 hb0 hb1
  have HF := Lib.hid (show twoN s a b = (if (s.toList == [43]) = true then cutN (a + b) else if (s.toList == [45]) = true then cutN (a - b) else if (s.toList == [42]) = true then cutN (a * b) else if a < b then 1 else 0) by
    simp only [isS, decide_eq_true_eq]; rfl)
  have HC := Lib.hid cutNumber_any
  cases q0 : (s.toList == [43])
  · cases q1 : (s.toList == [45])
    · cases q2 : (s.toList == [42])
      · by_cases hab : a < b
        · have q : decide (a < b) = true := by simpa using hab
          have HB := Lib.hid (show twoN s a b = 1 by rw [HF.out, q0, q1, q2]; simp [hab])
          clear HF
          go_enter Tryz.func230, Tryz.ntmps230
          go_wp2_with fail
          go_ret
          exact ⟨ret_int HB.out.symm, rfl⟩
        · have q : decide (a < b) = false := by simpa using hab
          have HB := Lib.hid (show twoN s a b = 0 by rw [HF.out, q0, q1, q2]; simp [hab])
          clear HF
          go_enter Tryz.func230, Tryz.ntmps230
          go_wp2_with fail
          go_ret
          exact ⟨ret_int HB.out.symm, rfl⟩
      · have HB := Lib.hid (show twoN s a b = cutN (a * b) by rw [HF.out, q0, q1, q2]; rfl)
        clear HF
        go_enter Tryz.func230, Tryz.ntmps230
        go_wp2_with fail
        refine (HC.out _ _).mono ?_
        rintro e w1 ⟨rfl, rfl⟩
        go_wp2_with fail
        go_ret
        exact ⟨ret_int HB.out.symm, rfl⟩
    · have HB := Lib.hid (show twoN s a b = cutN (a - b) by rw [HF.out, q0, q1]; rfl)
      clear HF
      go_enter Tryz.func230, Tryz.ntmps230
      go_wp2_with fail
      refine (HC.out _ _).mono ?_
      rintro e w1 ⟨rfl, rfl⟩
      go_wp2_with fail
      go_ret
      exact ⟨ret_int HB.out.symm, rfl⟩
  · have HB := Lib.hid (show twoN s a b = cutN (a + b) by rw [HF.out, q0]; rfl)
    clear HF
    go_enter Tryz.func230, Tryz.ntmps230
    go_wp2_with fail
    refine (HC.out _ _).mono ?_
    rintro e w1 ⟨rfl, rfl⟩
    go_wp2_with fail
    go_ret
    exact ⟨ret_int HB.out.symm, rfl⟩

/-- Names and their numbers, as the value that lastTold hands back holds them. -/
structure ToldI (Bn Bv : Nat) (A : Option Addr) (c : Nat) (ss : List ByteArray) (A' : Option Addr) (c' : Nat) (vs : List Int) (w : World) : Prop where
  n : NamesAt Bn A c ss w
  v : w.cell? ⟨Bv, 0, none⟩ = some (.slice A' vs.length c')
  s : SlIs w A' (vs.map intV)
theorem cell_lt {w : World} {p : Addr} {v : Value} (h : w.cell? p = some v) : p.block < w.heap.size := by
  rcases Nat.lt_or_ge p.block w.heap.size with hlt | hge
  · exact hlt
  · simp [World.cell?, Array.getElem?_eq_none hge] at h
theorem ToldI.below {Bn Bv : Nat} {A : Option Addr} {c : Nat} {ss : List ByteArray} {A' : Option Addr} {c' : Nat} {vs : List Int} {w w' : World} (h : ToldI Bn Bv A c ss A' c' vs w) (hb : Below w.heap.size w w') : ToldI Bn Bv A c ss A' c' vs w' :=
  ⟨h.n.below hb, (hb.cell (p := ⟨Bv, 0, none⟩) (cell_lt h.v)).trans h.v, h.s.below hb⟩
/-- What it comes to is told. -/
def Comes (x : Option Int) (w : World) (e : Ending) (w' : World) : Prop := e = .returned (.tuple #[.int .i64 (x.getD 0), .bool x.isSome]) ∧ Below w.heap.size w w'

set_option maxRecDepth 100000 in
set_option maxHeartbeats 2000000 in
theorem comesTo_any {Bn Bv : Nat} {A : Option Addr} {c : Nat} {ss : List ByteArray} {A' : Option Addr} {c' : Nat} {vs : List Int} (hl : ss.length ≤ 2 ^ 40) (hlen : ss.length = vs.length) (p : Pt) : p.fine = true → ∀ w : World, ToldI Bn Bv A c ss A' c' vs w →
    Calls Tryz.prog (fComesTo p) #[ptU p, .func (.func 128) #[] #[.pointer (some ⟨Bn, 0, none⟩), .pointer (some ⟨Bv, 0, none⟩)]] w (Comes (p.of ss vs) w) := by
  induction p with
  | num n =>
    intro _ w _
    show Calls Tryz.prog 246 #[.agg #[.int .i64 n], _] w _
    go_enter Tryz.func246, Tryz.ntmps246
    go_wp2_with fail
    go_ret2
    exact ⟨rfl, (Below.refl _ w).alloc (Nat.le_refl _) _⟩
  | name s =>
    intro _ w hT
    show Calls Tryz.prog 252 #[.agg #[.string s], _] w _
    have hb0 : Below w.heap.size w (w.alloc (.cells #[.string s] 187)) := (Below.refl _ w).alloc (Nat.le_refl _) _
    have hT0 := hT.below hb0
    have HT := Lib.hid (told_int Bn Bv A c ss A' c' vs s _ hl hlen hT0.n hT0.v hT0.s)
    have HC := Lib.hid cutNumber_any
    have HF := Lib.hid (show ((Pt.name s).of ss vs).getD 0 = cutN (lastI ss vs s) ∧ ((Pt.name s).of ss vs).isSome = (lastOf ss s).isSome by
      rw [Pt.of]; unfold lastI; cases lastOf ss s <;> exact ⟨rfl, rfl⟩)
    clear hT hT0 hlen
    go_enter Tryz.func252, Tryz.ntmps252
    go_wp2_with fail
    refine HT.out.mono ?_
    rintro e w1 ⟨rfl, hb1⟩
    go_wp2_with fail
    refine (HC.out _ _).mono ?_
    rintro e w2 ⟨rfl, rfl⟩
    go_wp2_with fail
    go_ret2
    exact ⟨by rw [HF.out.1, HF.out.2]; rfl, hb0.trans (hb1.mono hb0.size)⟩
  | «as» s a ia =>
    intro hf w hT
    simp only [Pt.fine, Bool.and_eq_true] at hf
    show Calls Tryz.prog 258 #[.agg #[.string s, partV a], _] w (Comes (a.of ss vs) w)
    obtain ⟨m1, n1, k1⟩ := meth_comesTo a
    have HA := Lib.hid (ia hf.2)
    rw [partV_at a]
    generalize ptT a = t1 at *
    generalize ptU a = u1 at *
    generalize fComesTo a = f1 at *
    generalize a.of ss vs = r1 at *
    have hb0 : Below w.heap.size w (w.alloc (.cells #[.string s, .iface t1 u1] 189)) := (Below.refl _ w).alloc (Nat.le_refl _) _
    have HT := Lib.hid (hT.below hb0)
    clear ia hT hf hlen
    go_enter Tryz.func258, Tryz.ntmps258
    go_wp2_with fail
    refine (HA.out _ HT.out).mono ?_
    rintro e w1 ⟨rfl, hb1⟩
    go_wp2_with fail
    go_ret2
    exact ⟨rfl, hb0.trans (hb1.mono hb0.size)⟩
  | two s a b ia ib =>
    intro hf w hT
    simp only [Pt.fine, Bool.and_eq_true] at hf
    show Calls Tryz.prog 225 #[.agg #[.string s, partV a, partV b], _] w (Comes ((Pt.two s a b).of ss vs) w)
    obtain ⟨m1, n1, k1⟩ := meth_comesTo a
    obtain ⟨m2, n2, k2⟩ := meth_comesTo b
    have HA := Lib.hid (ia hf.2.1)
    have HB := Lib.hid (ib hf.2.2)
    have HBa := Lib.hid (Pt.of_bounds ss vs a hf.2.1)
    have HBb := Lib.hid (Pt.of_bounds ss vs b hf.2.2)
    have HF := Lib.hid (show (Pt.two s a b).of ss vs = match a.of ss vs, b.of ss vs with | some x, some y => some (twoN s x y) | _, _ => none from rfl)
    rw [partV_at a, partV_at b]
    generalize (Pt.two s a b).of ss vs = R at *
    generalize ptT a = t1 at *
    generalize ptU a = u1 at *
    generalize fComesTo a = f1 at *
    generalize ptT b = t2 at *
    generalize ptU b = u2 at *
    generalize fComesTo b = f2 at *
    generalize a.of ss vs = r1 at *
    generalize b.of ss vs = r2 at *
    obtain ⟨W0, hW0⟩ : ∃ W0, W0 = w.alloc (.cells #[.string s, .iface t1 u1, .iface t2 u2] 155) := ⟨_, rfl⟩
    have hb0 : Below w.heap.size w W0 := by rw [hW0]; exact (Below.refl _ w).alloc (Nat.le_refl _) _
    have hs0 : w.heap.size < W0.heap.size := by rw [hW0]; simp
    have c0 : W0.cell? ⟨w.heap.size, 0, none⟩ = some (.string s) := by rw [hW0]; exact cell_made4 w _ _ 0 _ rfl
    have c2 : W0.cell? ⟨w.heap.size, 2, none⟩ = some (.iface t2 u2) := by rw [hW0]; exact cell_made4 w _ _ 2 _ rfl
    have HT := Lib.hid (hT.below hb0)
    clear ia ib hT hf hlen
    go_enter Tryz.func225, Tryz.ntmps225
    go_wp2_with fail
    rw [← hW0]
    clear hW0
    refine (HA.out _ HT.out).mono ?_
    rintro e w1 ⟨rfl, hb1⟩
    have d0 := (hb1.cell (p := ⟨w.heap.size, 0, none⟩) hs0).trans c0
    have d2 := (hb1.cell (p := ⟨w.heap.size, 2, none⟩) hs0).trans c2
    have HT1 := Lib.hid (HT.out.below hb1)
    clear c0 c2
    go_wp2_with fail
    refine (HB.out _ HT1.out).mono ?_
    rintro e w2 ⟨rfl, hb2'⟩
    have hb2 := hb1.trans (hb2'.mono hb1.size)
    have e0 := (hb2.cell (p := ⟨w.heap.size, 0, none⟩) hs0).trans (((hb1.cell (p := ⟨w.heap.size, 0, none⟩) hs0).symm).trans d0)
    have HX := Lib.hid (hb0.trans (hb2.mono hb0.size))
    clear d0 d2 hb2'
    rcases r1 with _ | x
    · go_wp2_with fail
      go_ret2
      exact ⟨by rw [HF.out]; rfl, HX.out⟩
    · rcases r2 with _ | y
      · go_wp2_with fail
        go_ret2
        exact ⟨by rw [HF.out]; rfl, HX.out⟩
      · have hx := HBa.out x rfl
        have hy := HBb.out y rfl
        have HR := Lib.hid (reckon_any s x y w2 hx.1 hx.2 hy.1 hy.2)
        simp only [Option.getD_some, Option.isSome_some]
        go_wp2_with fail
        refine HR.out.mono ?_
        rintro e w3 ⟨rfl, rfl⟩
        go_wp2_with fail
        go_ret2
        exact ⟨by rw [HF.out]; rfl, HX.out⟩

set_option maxHeartbeats 1000000 in
theorem lastTold_int (A A' : Option Addr) (c c' : Nat) (ss : List ByteArray) (vs : List Int) (w : World) (hN : SlIs w A (ss.map strV)) (hV : SlIs w A' (vs.map intV)) : Calls Tryz.prog 85 #[.slice A ss.length c, .slice A' vs.length c'] w fun e w' => ∃ Bn Bv, e = .returned (.func (.func 128) #[] #[.pointer (some ⟨Bn, 0, none⟩), .pointer (some ⟨Bv, 0, none⟩)]) ∧ ToldI Bn Bv A c ss A' c' vs w' ∧ Below w.heap.size w w' := by
  have hb : Below w.heap.size w ((w.alloc (.cells #[.slice A ss.length c] 27)).alloc (.cells #[.slice A' vs.length c'] 38)) := ((Below.refl _ w).alloc (Nat.le_refl _) _).alloc (by simp) _
  have HT := Lib.hid (show ToldI w.heap.size (w.heap.size + 1) A c ss A' c' vs ((w.alloc (.cells #[.slice A ss.length c] 27)).alloc (.cells #[.slice A' vs.length c'] 38)) by
    refine ⟨⟨((Boxed.new w 27 (.slice A ss.length c)).alloc _).cell, hN.below hb⟩, ?_, hV.below hb⟩
    have := Boxed.new (w.alloc (.cells #[.slice A ss.length c] 27)) 38 (.slice A' vs.length c')
    rw [World.size_alloc] at this
    exact this.cell)
  clear hN hV
  go_enter Tryz.func85, Tryz.ntmps85
  go_wp2_with fail
  go_ret
  exact ⟨_, _, rfl, HT.out, hb⟩
set_option maxRecDepth 100000 in
set_option maxHeartbeats 2000000 in
theorem exprOf_any (e : Ex) (A : Option Addr) (c B : Nat) (An Av : Option Addr) (cn cv : Nat) (ss : List ByteArray) (vs : List Int) (w : World) (hA : KidsAt w B A e.kids) (hc : e.kids.length ≤ c) (hB : B ≤ w.heap.size) (hw : e.wt ≤ 2 ^ 40)
    (hl : ss.length ≤ 2 ^ 40) (_hl2 : vs.length ≤ 2 ^ 40) (hN : SlIs w An (ss.map strV)) (hV : SlIs w Av (vs.map intV)) :
    Calls Tryz.prog 33 #[.agg #[.int .i64 e.kind, .int .i64 e.n, .string e.s, .slice A e.kids.length c], .slice An ss.length cn, .slice Av vs.length cv] w (Comes (ofE e ss vs) w) := by
  have hkl : e.kids.length ≤ 2 ^ 40 := by
    obtain ⟨k, n, s, ks⟩ := e
    have := Ex.wts_length ks
    simp only [Ex.wt, Ex.kids] at hw ⊢
    omega
  have hb0 : Below w.heap.size w (w.alloc (.cells #[.int .i64 e.kind, .int .i64 e.n, .string e.s, .slice A e.kids.length c] 25)) := (Below.refl _ w).alloc (Nat.le_refl _) _
  have HC := Lib.hid (partOf_any e A c B _ (hA.keep (hb0.mono hB)) hc (Nat.le_trans hB hb0.size) hw)
  clear hA hw
  cases hok : okE e
  · have HF := Lib.hid (show ofE e ss vs = none by unfold ofE; rw [show okP e = none from by cases h : okP e with | none => rfl | some p => rw [← okP_isSome, h] at hok; cases hok]; simp)
    unfold PartOf at HC
    rw [hok] at HC
    clear hok
    go_enter Tryz.func33, Tryz.ntmps33
    go_wp2_with fail
    refine HC.out.mono ?_
    rintro r w1 ⟨v, rfl, _, hb1⟩
    clear HC
    go_wp2_with fail
    go_ret2
    exact ⟨by rw [HF.out]; rfl, hb0.trans (hb1.mono hb0.size)⟩
  · obtain ⟨p, hp⟩ : ∃ p, okP e = some p := by
      cases h : okP e with
      | none => rw [← okP_isSome, h] at hok; cases hok
      | some p => exact ⟨p, rfl⟩
    have hfine := ok_fine (okP_some hp).2
    unfold PartOf at HC
    rw [hok] at HC
    by_cases hll : ss.length = vs.length
    · have HF := Lib.hid (show ofE e ss vs = p.of ss vs by unfold ofE; rw [if_pos hll, hp]; rfl)
      have q : ((ss.length : Int) != (vs.length : Int)) = false := by rw [hll]; simp
      have HP := Lib.hid hp
      have HL := Lib.hid hll
      have HN := Lib.hid hN
      have HV := Lib.hid hV
      clear hp hll hok hN hV
      go_enter Tryz.func33, Tryz.ntmps33
      go_wp2_with fail
      refine HC.out.mono ?_
      rintro r w1 ⟨v, rfl, hv, hb1⟩
      obtain rfl := hv p HP.out
      obtain ⟨m1, n1, k1⟩ := meth_comesTo p
      have hb2 := hb0.trans (hb1.mono hb0.size)
      have HCT := Lib.hid (fun (Bn Bv : Nat) (W : World) (h : ToldI Bn Bv An cn ss Av cv vs W) => comesTo_any hl HL.out p hfine W h)
      have HLT := Lib.hid (fun (W : World) (hW : Below w.heap.size w W) => lastTold_int An Av cn cv ss vs W (HN.out.below hW) (HV.out.below hW))
      rw [partV_at p]
      generalize p.of ss vs = R at *
      generalize ptT p = t1 at *
      generalize ptU p = u1 at *
      generalize fComesTo p = f1 at *
      clear HC hv HN HV hb1 HP hfine
      go_wp2_with fail
      go_region_held3 (fun w' => Below w1.heap.size w1 w') (first | exact (Below.refl _ w1).drew | exact hy3 | exact hy2)
        (first | (go_at_call 85; refine (HLT.out _ (hb2.trans ((Below.refl _ w1).drew.mono hb2.size))).mono ?_; rintro r w2 ⟨Bn, Bv, rfl, hT2, hx2⟩; have hy2 : Below w1.heap.size w1 w2 := (Below.refl _ w1).drew.trans hx2) | ((first | refine (HCT.out Bn Bv _ hT2).mono ?_ | refine (HCT.out Bn Bv _ (hT2.below (Below.refl _ w2).drew)).mono ?_); rintro r w3 ⟨rfl, hx3⟩; have hy3 : Below w1.heap.size w1 w3 := hy2.trans (hx3.mono hy2.size)))
      all_goals (try go_wp2_with fail)
      all_goals go_ret2
      all_goals exact ⟨by rw [HF.out]; rfl, hb2.trans (hy3.mono hb2.size)⟩
    · have HF := Lib.hid (show ofE e ss vs = none by unfold ofE; rw [if_neg hll])
      have q : ((ss.length : Int) != (vs.length : Int)) = true := by rw [bne_iff_ne]; omega
      clear hp hll hok hfine
      go_enter Tryz.func33, Tryz.ntmps33
      go_wp2_with fail
      refine HC.out.mono ?_
      rintro r w1 ⟨v, rfl, _, hb1⟩
      clear HC
      go_wp2_with fail
      go_ret2
      exact ⟨by rw [HF.out]; rfl, hb0.trans (hb1.mono hb0.size)⟩
end Go.Proofs.YtkfnbakhbbcfcaaGreatDoor
