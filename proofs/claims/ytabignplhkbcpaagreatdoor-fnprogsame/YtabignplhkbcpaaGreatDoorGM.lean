/-
  MarkText, MarkEx, MarkLine: these texts one behind the other, as a claim holds at most 60 files.
-/
import Derived.Test.YtabignplhkbcpaaGreatDoorGB
import Derived.Test.YtabignplhkbcpaaGreatDoorGD
import Derived.Test.YtabignplhkbcpaaGreatDoorGA
import Derived.Test.YtabignplhkbcpaaGreatDoorMethExpr
namespace Go.Proofs.YtabignplhkbcpaaGreatDoor
open Go.RowKit

def byteS (n : Int) : ByteArray := ByteArray.empty.push (UInt8.ofNat n.toNat)
def digB (j : Nat) : ByteArray := byteS (48 + (j : Int) % 10)
def markLoop : Nat → Nat → ByteArray → ByteArray
  | 0, _, out => out
  | f + 1, j, out => if j = 0 then out else markLoop f (j / 10) (digB j ++ out)
/-- The mark of a number. -/
def markS (k : Nat) : ByteArray := ⟨#[109]⟩ ++ markLoop k k ByteArray.empty

theorem byteS_size (n : Int) : (byteS n).size = 1 := rfl

end Go.Proofs.YtabignplhkbcpaaGreatDoor

namespace Go.Proofs.YtabignplhkbcpaaGreatDoor
open Go.RowKit

mutual
/-- A kid with marks from k on, and its kids behind it. -/
def markK : Ex → Nat → Ex
  | .mk _ _ _ ks, k => .mk (k : Int) ((k : Int) + 1) (markS (k + 2)) (marksE ks (k + 3))
def marksE : List Ex → Nat → List Ex
  | [], _ => []
  | e :: es, k => markK e k :: marksE es (k + 3 * e.nodes)
end
theorem marksE_length (ks : List Ex) : ∀ k, (marksE ks k).length = ks.length := by
  induction ks with
  | nil => intro k; simp [marksE]
  | cons e es ih => intro k; simp [marksE, ih]
theorem marksE_append (xs ys : List Ex) : ∀ k, marksE (xs ++ ys) k = marksE xs k ++ marksE ys (k + 3 * Ex.nodess xs) := by
  induction xs with
  | nil => intro k; simp [marksE, Ex.nodess]
  | cons e es ih =>
    intro k
    rw [List.cons_append, marksE, ih, marksE, Ex.nodess, List.cons_append, show k + 3 * e.nodes + 3 * Ex.nodess es = k + 3 * (e.nodes + Ex.nodess es) by omega]
theorem marksE_one (x : Ex) (k : Nat) : marksE [x] k = [markK x k] := by simp [marksE]
theorem marksE_get (ks : List Ex) : ∀ (k j : Nat) (h : j < ks.length), (marksE ks k)[j]'(by rw [marksE_length]; exact h) = markK ks[j] (k + 3 * Ex.nodess (ks.take j)) := by
  induction ks with
  | nil => intro k j h; simp at h
  | cons e es ih =>
    intro k j h
    cases j with
    | zero => simp [marksE, Ex.nodess]
    | succ j =>
      simp only [marksE, List.getElem_cons_succ, List.take_succ_cons, Ex.nodess]
      rw [ih _ j (by simpa using h), show k + 3 * e.nodes + 3 * Ex.nodess (List.take j es) = k + 3 * (e.nodes + Ex.nodess (List.take j es)) by omega]
theorem nodess_take_succ (ks : List Ex) (j : Nat) (h : j < ks.length) : Ex.nodess (ks.take (j + 1)) = Ex.nodess (ks.take j) + ks[j].nodes := by
  rw [List.take_succ_eq_append_getElem h, Ex.nodess_append]; simp [Ex.nodess]
theorem nodess_take_le (ks : List Ex) (j : Nat) : Ex.nodess (ks.take j) ≤ Ex.nodess ks := by
  have : Ex.nodess ks = Ex.nodess (ks.take j) + Ex.nodess (ks.drop j) := by rw [← Ex.nodess_append, List.take_append_drop]
  omega

/-- Only the blocks from lo to hi, and new ones, have turned. -/
structure Turned (lo hi : Nat) (w w' : World) : Prop where
  os : w'.os = w.os
  tape : w'.tape = w.tape
  output : w'.output = w.output
  size : w.heap.size ≤ w'.heap.size
  block : ∀ b, b < w.heap.size → (b < lo ∨ hi ≤ b) → w'.heap[b]? = w.heap[b]?
theorem Turned.refl (lo hi : Nat) (w : World) : Turned lo hi w w := ⟨rfl, rfl, rfl, Nat.le_refl _, fun _ _ _ => rfl⟩
theorem Turned.trans {lo hi : Nat} {a b c : World} (h : Turned lo hi a b) (k : Turned lo hi b c) : Turned lo hi a c :=
  ⟨k.os.trans h.os, k.tape.trans h.tape, k.output.trans h.output, Nat.le_trans h.size k.size, fun i hi ho => (k.block i (Nat.lt_of_lt_of_le hi h.size) ho).trans (h.block i hi ho)⟩
theorem Turned.wide {lo hi lo2 hi2 : Nat} {a b : World} (h : Turned lo hi a b) (h1 : lo2 ≤ lo) (h2 : hi ≤ hi2) : Turned lo2 hi2 a b :=
  ⟨h.os, h.tape, h.output, h.size, fun i hi ho => h.block i hi (by omega)⟩
theorem Turned.below {lo hi : Nat} {a b : World} (h : Turned lo hi a b) (hl : lo ≤ a.heap.size) : Below lo a b :=
  ⟨h.os, h.tape, h.output, h.size, fun i hi => h.block i (by omega) (.inl hi)⟩
theorem turned_of_below {lo hi : Nat} {a b : World} (h : Below a.heap.size a b) : Turned lo hi a b := ⟨h.os, h.tape, h.output, h.size, fun i hi _ => h.block i hi⟩
theorem turned_set {lo hi : Nat} (w : World) (g i : Nat) (v : Value) (h1 : lo ≤ g) (h2 : g < hi) : Turned lo hi w (w.setCell ⟨g, i, none⟩ v) :=
  ⟨rfl, rfl, rfl, by simp, fun b _ ho => Below.heap_setCell _ _ _ b (by show b ≠ g; omega)⟩

theorem Ex.nodess_length (xs : List Ex) : xs.length ≤ Ex.nodess xs := by
  induction xs with
  | nil => simp
  | cons x xs ih => cases x; simp only [List.length_cons, Ex.nodess, Ex.nodes]; omega
theorem mark_round {wr w4 : World} {ms rest : List Ex} {y : Ex} {g lo hi m1 mid j : Nat} {D : Option Addr} {c : Nat} (hj : ms.length = j)
    (h1 : OwnL wr ms g 0 lo m1) (h3 : OwnL wr rest g (4 * j + 4) mid hi) (hy : KidC w4 g (4 * j) y D c) (oy : OwnE w4 y m1 mid D)
    (hc : ∀ i, i < 4 * j ∨ 4 * j + 4 ≤ i → w4.cell? ⟨g, i, none⟩ = wr.cell? ⟨g, i, none⟩)
    (hb : ∀ b, (lo ≤ b ∧ b < m1) ∨ (mid ≤ b ∧ b < hi) → w4.heap[b]? = wr.heap[b]?) : OwnL w4 (ms ++ y :: rest) g 0 lo hi := by
  subst hj
  refine ownL_append (ownL_keep (fun i _ hi => hc i (.inl (by omega))) (fun b q1 q2 => hb b (.inl ⟨q1, q2⟩)) h1) ?_
  rw [Nat.zero_add, OwnL]
  exact ⟨D, c, mid, hy, oy, ownL_keep (fun i h1 _ => hc i (.inr h1)) (fun b q1 q2 => hb b (.inr ⟨q1, q2⟩)) h3⟩

end Go.Proofs.YtabignplhkbcpaaGreatDoor

namespace Go.Proofs.YtabignplhkbcpaaGreatDoor
open Go.RowKit

/-- What is reckoned, with marks from k on in its kids. -/
def markedE (e : Ex) (k : Nat) : Ex := .mk e.kind e.n e.s (marksE e.kids k)
theorem cell_marked (w : World) (cs : Array Value) (t : TypeId) (j : Nat) (v : Value) (h : cs[j]? = some v) : (w.alloc (.cells cs t)).cell? ⟨w.heap.size, j, none⟩ = some v := by
  have := World.alloc_heap_new w (.cells cs t)
  simp only [World.cell?, this]
  simpa using h
end Go.Proofs.YtabignplhkbcpaaGreatDoor
