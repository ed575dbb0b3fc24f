/-
  The contract of the iterator impl.eachLine, for all texts: it yields each line, where it begins, in order.
-/
import Derived.RangeFuncNested
import Derived.RangeFuncBound
import Derived.RangeFuncCalls
import Derived.RangeFuncLeaves
import Derived.RangeFuncBox
import Derived.Shelf.Abstract
import Derived.Shelf.RegionOpen
import Derived.WalkKit
import Derived.OwnWalkIn
import Derived.TacticsInMore
import Derived.LoopNIn
import Derived.LoopIn
import Derived.Lib.Hide
import Derived.Test.YtnpcohbbjfjjaaaTextWalk
namespace Go.Proofs.Ytnpcohbbjfjjaaa
open Go.RowKit Go.Shelf
attribute [local go_sem] Oper.semAt_some

/-- The box of the text holds it on. -/
def KeepsText (Bs : Nat) (s : ByteArray) (W W' : World) : Prop := W.cell? ⟨Bs, 0, none⟩ = some (.string s) → W'.cell? ⟨Bs, 0, none⟩ = some (.string s)
theorem KeepsText.t {Bs : Nat} {s : ByteArray} {A B C : World} (h : KeepsText Bs s A B) (k : KeepsText Bs s B C) : KeepsText Bs s A C := fun q => k (h q)
theorem KeepsText.b {Bs : Nat} {s : ByteArray} {w : World} (W : World) (l : Nat) (o o' : Obj) (_ : w.heap.size ≤ l) (h : W.heap[l]? = some o) (ho : o.isCells = false) (_ : o.isWalk = false) : KeepsText Bs s W (W.putObj l o') := fun q =>
  cell_kept q (grownBy_putObj' _ l o') (fun r e => by cases e; exact ⟨_, h, ho⟩)
theorem KeepsText.of_below {Bs : Nat} {s : ByteArray} {n : Nat} {W W' : World} (h : Below n W W') (hb : Bs < n) : KeepsText Bs s W W' := fun q => (h.cell (p := ⟨Bs, 0, none⟩) hb).trans q

set_option maxRecDepth 100000 in
set_option maxHeartbeats 2000000 in
/-- The closure of eachLine, for every loop body that keeps what lay below n₀. -/
theorem eachLine1_in (F : Fence) (n : Nat) (hf : F.fn 59) (hro : F.round = none) (hn : 1 ≤ n) (l Bs : Nat) (s : ByteArray) (hs : s.size ≤ 2 ^ 62) (J Jx : List (Nat × Nat) → World → Prop)
    (hY : ∀ pre x W, J pre W → pre.length < (lines s).length → YieldAt F (n - 1) Try.prog l #[.int .i64 (x.1 : Int), .string (s.extract x.1 x.2)] W fun e W' =>
      (e = .returned (.bool true) ∧ J (pre ++ [x]) W' ∧ KeepsText Bs s W W') ∨ (e = .returned (.bool false) ∧ Jx (pre ++ [x]) W'))
    (W : World) (hBs : W.cell? ⟨Bs, 0, none⟩ = some (.string s)) (h0 : J [] W) :
    CallsIn F n Try.prog 59 #[.func (.yield l) #[] #[], .pointer (some ⟨Bs, 0, none⟩)] W fun e W' => (∃ v, e = .returned v) ∧
      ((∃ ys, ys = lines s ∧ J ys W') ∨ (∃ pre, pre <+: lines s ∧ Jx pre W')) := by
  refine callsIn_of_wp Try.func59 rfl hf ?_ hro
  simp only [Try.ntmps59, List.size_toArray, List.length_cons, List.length_nil, Nat.reduceAdd, Nat.reduceSub, Array.replicate_succ, Array.replicate_zero, List.push_toArray, List.append_toArray, List.nil_append, List.cons_append]
  gi_wp2
  gi_loopw [3, 7] (fun d i wr => ∃ (pre : List (Nat × Nat)) (b k : Nat), b ≤ k ∧ k ≤ s.size ∧ d = .int .i64 b ∧ i = .int .i64 k ∧ lines s = pre ++ cuts b k ((L s).drop k) ∧ J pre wr ∧ wr.cell? ⟨Bs, 0, none⟩ = some (.string s))
    (fun _ i _ => s.size - (intOf i).toNat)
  case atStart => exact ⟨[], 0, 0, Nat.le_refl _, Nat.zero_le _, rfl, rfl, rfl, h0, hBs⟩
  case round =>
    obtain ⟨pre, b, k, hbk, hk, rfl, rfl, hx, hJs, hcx⟩ := hrel
    have HX := Lib.hid hx; clear hx
    by_cases hlt : k < s.size
    · have HS := Lib.hid (L_drop s k hlt)
      by_cases h10 : (s[k].toNat : Int) = 10
      · have q1 : ((s[k].toNat : Int) != 10) = false := by simpa using h10
        have q3 : s[k] = 10 := UInt8.toNat_inj.1 (by have : (10 : UInt8).toNat = 10 := rfl; omega)
        have HF := Lib.hid (show lines s = pre ++ ((b, k) :: cuts (k + 1) (k + 1) ((L s).drop (k + 1))) by rw [HX.out, HS.out]; simp [cuts, q3])
        clear HX HS h10 q3
        obtain ⟨fn, tmps, assign, body, hy, hR⟩ := hY pre (b, k) wr hJs (by rw [HF.out]; simp)
        dsimp only at hy
        gi_wp2
        refine hR.mono ?_
        rintro e W3 (⟨rfl, hJ3, hk3⟩ | ⟨rfl, hJx3⟩)
        · gi_wp2
          go_roundw
          case rel => exact ⟨pre ++ [(b, k)], k + 1, k + 1, Nat.le_refl _, by omega, by go_num, by go_num, by rw [HF.out]; simp, hJ3, hk3 hcx⟩
          case measure => simp [intOf]; omega
        · gi_wp2
          refine bodyPost_ret (results_none rfl _ _ _) rfl ?_
          exact ⟨⟨_, rfl⟩, .inr ⟨pre ++ [(b, k)], ⟨cuts (k + 1) (k + 1) ((L s).drop (k + 1)), by rw [HF.out]; simp⟩, hJx3⟩⟩
      · have q1 : ((s[k].toNat : Int) != 10) = true := by simpa using h10
        have q3 : ¬ s[k] = 10 := fun h => h10 (by rw [h]; rfl)
        have HF := Lib.hid (show lines s = pre ++ cuts b (k + 1) ((L s).drop (k + 1)) by rw [HX.out, HS.out]; simp [cuts, q3])
        clear HX HS h10 q3
        gi_wp2
        go_roundw
        case rel => exact ⟨pre, b, k + 1, by omega, by omega, rfl, by go_num, HF.out, hJs, hcx⟩
        case measure => simp [intOf]; omega
    · have hke : s.size = k := by omega
      have HF := Lib.hid (show lines s = pre ++ [(b, k)] by rw [HX.out, List.drop_eq_nil_of_le (by rw [L_length]; omega)]; rfl)
      clear HX
      obtain ⟨fn, tmps, assign, body, hy, hR⟩ := hY pre (b, s.size) wr hJs (by rw [HF.out]; simp)
      have HK := Lib.hid hke
      clear hke
      dsimp only at hy
      gi_wp2
      refine hR.mono ?_
      rintro e W3 (⟨rfl, hJ3, hk3⟩ | ⟨rfl, hJx3⟩)
      · gi_wp2
        go_end0
        exact ⟨⟨_, rfl⟩, .inl ⟨_, by rw [HF.out, HK.out], hJ3⟩⟩
      · gi_wp2
        go_end0
        exact ⟨⟨_, rfl⟩, .inr ⟨_, ⟨[], by rw [HF.out, HK.out]; simp⟩, hJx3⟩⟩

set_option maxHeartbeats 1000000 in
/-- eachLine(s): the text is boxed; the function value captures the box. -/
theorem eachLine_in (F : Fence) (n : Nat) (hf : F.fn 49) (hro : F.round = none) (s : ByteArray) (w : World) :
    CallsIn F n Try.prog 49 #[.string s] w fun e w' => e = .returned (.func (.func 59) #[] #[.pointer (some ⟨w.heap.size, 0, none⟩)]) ∧ w' = w.alloc (.cells #[.string s] 9) := by
  refine callsIn_of_wp Try.func49 rfl hf ?_ hro
  simp only [Try.ntmps49, List.size_toArray, List.length_cons, List.length_nil, Nat.reduceAdd, Nat.reduceSub, Array.replicate_succ, Array.replicate_zero, List.push_toArray, List.append_toArray, List.nil_append, List.cons_append]
  gi_wp2
  go_ret
  exact ⟨rfl, rfl⟩

/-- The value that eachLine hands back yields all lines, in order, or a part of them, the first ones. -/
theorem eachLine_stops (F : Fence) (n : Nat) (hf : F.fn 59) (hro : F.round = none) (hn : 1 ≤ n) (Bs : Nat) (s : ByteArray) (hs : s.size ≤ 2 ^ 62) (w : World) (hBs : Bs < w.heap.size)
    (hc : w.cell? ⟨Bs, 0, none⟩ = some (.string s)) :
    SeqStopsK F n Try.prog 59 #[.pointer (some ⟨Bs, 0, none⟩)] (fun x : Nat × Nat => #[Value.int .i64 (x.1 : Int), .string (s.extract x.1 x.2)]) (KeepsText Bs s) (fun ys => ys = lines s) (fun pre => pre <+: lines s) (lines s).length w := fun l J Jx W hW _ _ hY h0 =>
  eachLine1_in F n hf hro hn l Bs s hs J Jx hY W ((hW.cell (p := ⟨Bs, 0, none⟩) hBs).trans hc) h0

end Go.Proofs.Ytnpcohbbjfjjaaa
