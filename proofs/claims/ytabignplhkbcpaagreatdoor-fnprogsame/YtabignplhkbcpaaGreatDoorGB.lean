/-
  Base, Strs, Exs, Boxes: these texts one behind the other, as a claim holds at most 60 files.
-/
import Derived.Test.YtabignplhkbcpaaGreatDoorProg
import Derived.WalkKit
import Derived.WalkSpells
import Derived.WalkLawsBesides
import Derived.Deep.QuietTactic
import Derived.BigQuiet
import Derived.Deep.RegionHeld3
import Derived.Deep.DrawnRows
import Derived.Deep.Onto
import Derived.Deep.AppendLies
import Derived.Deep.OwnRows
import Derived.Maps.AppendAt
import Derived.Maps.OwnIn
import Derived.Lib.Hide
import Derived.RangeFuncBox
import Derived.Test.YtabignplhkbcpaaGreatDoorGA
namespace Go.Proofs.YtabignplhkbcpaaGreatDoor
open Go.RowKit

theorem ret_bool {a b : Bool} (h : a = b) : Ending.returned (.bool a) = .returned (.bool b) := by rw [h]
theorem ret_str {a b : ByteArray} (h : a = b) : Ending.returned (.string a) = .returned (.string b) := by rw [h]
theorem ret_int {k : IntKind} {a b : Int} (h : a = b) : Ending.returned (.int k a) = .returned (.int k b) := by rw [h]
theorem ret_pair {a b : Int} {x : Int × Int} (h : x = (a, b)) : Ending.returned (.tuple #[.int .i64 a, .int .i64 b]) = .returned (.tuple #[.int .i64 x.1, .int .i64 x.2]) := by rw [h]
theorem str_ne {x y : ByteArray} (h : (!x.toList == y.toList) = true) : ¬ x = y := by
  intro e; rw [e] at h; simp at h
theorem str_eq {x y : ByteArray} (h : (!x.toList == y.toList) = false) : x = y := by
  have h1 : x.toList = y.toList := by simpa using h
  rw [ByteArray.toList_eq, ByteArray.toList_eq] at h1
  exact ByteArray.ext (Array.toList_inj.1 h1)

theorem below_draws {w : World} (n : Nat) : Below w.heap.size w (w.drewN n) := ⟨rfl, rfl, rfl, Nat.le_refl _, fun _ _ => rfl⟩
theorem own_below {w w' : World} {base : Nat} {e : TypeId} {size : Nat} {v : Value} {n : Nat} {xs : List Value} (h : w.ownsRow base e size v n xs) (hb : Below w.heap.size w w') : w'.ownsRow base e size v n xs :=
  h.kept (row := none) ⟨hb.os, hb.tape, hb.output, hb.size, fun i hi _ => hb.block i hi⟩ (by cases hv : v.ownBlock <;> simp)

/-- The slice at this address holds these values. -/
def SlIs (w : World) (A : Option Addr) (xs : List Value) : Prop :=
  xs = [] ∨ ∃ g off, A = some ⟨g, off, none⟩ ∧ g < w.heap.size ∧ ∀ j u, xs[j]? = some u → w.cell? ⟨g, off + j, none⟩ = some u
theorem SlIs.below {w w' : World} {A : Option Addr} {xs : List Value} (h : SlIs w A xs) (hb : Below w.heap.size w w') : SlIs w' A xs := by
  rcases h with h | ⟨g, off, e, hg, hc⟩
  · exact .inl h
  · exact .inr ⟨g, off, e, Nat.lt_of_lt_of_le hg hb.size, fun j u hu => (hb.cell (p := ⟨g, off + j, none⟩) hg).trans (hc j u hu)⟩
theorem SlIs.at_ {w : World} {A : Option Addr} {xs : List Value} (h : SlIs w A xs) {k : Nat} (hk : k < xs.length) : ∃ g off, A = some ⟨g, off, none⟩ ∧ g < w.heap.size ∧ w.cell? ⟨g, off + k, none⟩ = some xs[k] := by
  rcases h with h | ⟨g, off, e, hg, hc⟩
  · subst h; simp at hk
  · exact ⟨g, off, e, hg, hc k _ (List.getElem?_eq_getElem hk)⟩
theorem SlIs.own {w : World} {base : Nat} {e : TypeId} {A : Option Addr} {n c : Nat} {xs : List Value} (h : w.ownsRow base e 1 (.slice A n c) n xs) : SlIs w A xs := by
  rcases h.2 with ⟨hv, hn⟩ | ⟨g, cap, cur, hv, hb, hg, hnc, hcm, hcs, htake⟩
  · exact .inl (List.eq_nil_of_length_eq_zero (by rw [h.1, hn]))
  · injection hv with h1 h2 h3
    subst h1
    refine .inr ⟨g, 0, rfl, (Array.getElem?_eq_some_iff.1 hg).1, fun j u hu => ?_⟩
    have := h.cells (g := g) rfl j u hu
    rwa [show ((⟨g, 0, none⟩ : Addr).add j) = ⟨g, 0 + j, none⟩ from by unfold Addr.add; by_cases hj : j = 0 <;> simp [hj]] at this

def strV (s : ByteArray) : Value := .string s
/-- The call hands back a slice of its own, which holds these values; what was there is as it was. -/
def Makes (w : World) (t : TypeId) (xs : List Value) (e : Ending) (w' : World) : Prop :=
  ∃ v, e = .returned v ∧ w'.ownsRow w.heap.size t 1 v xs.length xs ∧ Below w.heap.size w w'
theorem own_slice {w : World} {base : Nat} {e : TypeId} {v : Value} {n : Nat} {xs : List Value} (h : w.ownsRow base e 1 v n xs) : ∃ A c, v = .slice A n c ∧ n ≤ c := by
  rcases h.2 with ⟨rfl, rfl⟩ | ⟨g, cap, _, rfl, _, _, hc, _⟩
  · exact ⟨none, 0, rfl, Nat.le_refl _⟩
  · exact ⟨_, cap, rfl, hc⟩
theorem own_made (w : World) (z : Value) (n : Nat) (hn : n ≤ maxLen) (t : TypeId) : (w.alloc (.cells (madeCells #[z] n) t)).ownsRow w.heap.size t 1 (.slice (some ⟨w.heap.size, 0, none⟩) n n) n (List.replicate n z) :=
  ⟨by simp, .inr ⟨w.heap.size, n, madeCells #[z] n, rfl, Nat.le_refl _, World.alloc_heap_new w _, Nat.le_refl _, hn, by rw [size_madeCells]; omega, by rw [toList_madeCells_one]; simp⟩⟩
theorem ownsRow_empty (w : World) (t : TypeId) : (w.alloc (.cells #[] t)).ownsRow w.heap.size t 1 (.slice (some ⟨w.heap.size, 0, none⟩) 0 0) 0 [] :=
  ⟨rfl, .inr ⟨w.heap.size, 0, #[], rfl, Nat.le_refl _, World.alloc_heap_new w _, Nat.le_refl _, by simp [maxLen], rfl, rfl⟩⟩

theorem below_append {n₀ : Nat} {w W w1 : World} {tmp : Obj} {v : Value} {t : TypeId} {k : Nat} {xs : List Value} (hB : Below n₀ w W) (hn : n₀ ≤ W.heap.size) (hrow : W.ownsRow n₀ t 1 v k xs) (hg : (W.alloc tmp).grownBy w1 v.ownBlock) : Below n₀ w w1 := by
  refine (hB.alloc hn tmp).grown hg (by simp; omega) fun j ej => ?_
  rcases hrow.2 with ⟨rfl, _⟩ | ⟨g, cap, cur, rfl, hb, _, _⟩
  · simp [Value.ownBlock] at ej
  · obtain rfl : g = j := by simpa [Value.ownBlock] using ej
    exact hb
theorem row_apart {W : World} {tmp : Obj} {Bs : Nat} {v v' : Value} (hne : v.ownBlock ≠ some Bs) (hat : v'.ownBlock = v.ownBlock ∨ v'.ownBlock = some (W.alloc tmp).heap.size) (hbs : Bs < W.heap.size) : v'.ownBlock ≠ some Bs := by
  rcases hat with h | h
  · rw [h]; exact hne
  · rw [h]; simp; omega

end Go.Proofs.YtabignplhkbcpaaGreatDoor

namespace Go.Proofs.YtabignplhkbcpaaGreatDoor
open Go.RowKit

theorem infoStr : (Tryz.prog.info? 9).map (fun i => (i.zero, i.size, i.bytes)) = some (some (.string ByteArray.empty), 1, 16) := by kernel_rfl
/-- A slice of texts that came in. -/
def IsStrs (w : World) (a : Option Addr) (len : Nat) (ss : List ByteArray) : Prop := ss.length = len ∧ len ≤ maxLen ∧ SlIs w a (ss.map strV) ∧ ∀ s ∈ ss, s.size ≤ maxLen
theorem isStrs_nil (w : World) : IsStrs w none 0 [] := ⟨rfl, by simp [maxLen], .inl rfl, by simp⟩
theorem isStrs_of {w : World} {a : Addr} {len cap : Nat} {ss : List ByteArray} (hl : len ≤ cap) (hm : cap ≤ maxLen) (hz : ss.length = cap) (hc : ∀ i, i < ss.length → w.cell? (a.add i) = some (.string (ss.getD i ByteArray.empty))) (hs : ∀ s ∈ ss, s.size ≤ maxLen) :
    IsStrs w (some a) len (ss.take len) := by
  refine ⟨by simp; omega, by omega, ?_, fun s h => hs s (List.mem_of_mem_take h)⟩
  by_cases h0 : len = 0
  · subst h0; exact .inl (by simp)
  · obtain ⟨b, off, spot⟩ := a
    have hspot : spot = none := by simpa [Addr.add] using World.cell?_spot (hc 0 (by omega))
    subst hspot
    have hb : b < w.heap.size := by
      have h1 := hc 0 (by omega)
      rcases Nat.lt_or_ge b w.heap.size with h | h
      · exact h
      · simp [World.cell?, Addr.add, Array.getElem?_eq_none h] at h1
    refine .inr ⟨b, off, rfl, hb, fun j u hu => ?_⟩
    have hj : j < len := by
      have := (List.getElem?_eq_some_iff.1 hu).1
      simp at this
      omega
    have h2 := hc j (by omega)
    rw [Go.WideShapes.add_plain] at h2
    rw [h2]
    rw [List.getElem?_map, List.getElem?_take_of_lt hj, List.getElem?_eq_getElem (by omega)] at hu
    simp [strV] at hu
    rw [← hu]
    simp [List.getD, show j < ss.length from by omega]

/-- How many bytes, and one more for each. -/
def tot (ss : List ByteArray) : Nat := (ss.map (fun s => s.size + 1)).sum
theorem tot_take_succ (ss : List ByteArray) (k : Nat) (h : k < ss.length) : tot (ss.take (k + 1)) = tot (ss.take k) + (ss[k].size + 1) := by
  unfold tot; rw [List.take_succ_eq_append_getElem h, List.map_append, List.sum_append]; simp
theorem tot_take_le (ss : List ByteArray) (k : Nat) : tot (ss.take k) ≤ tot ss := by
  have h : tot ss = tot (ss.take k) + tot (ss.drop k) := by
    unfold tot; rw [← List.sum_append, ← List.map_append, List.take_append_drop]
  omega
theorem length_le_tot (ss : List ByteArray) : ss.length ≤ tot ss := by
  unfold tot
  induction ss with
  | nil => simp
  | cons s ss ih => simp; omega

/-- What is left is told, and it tells that the texts are not too many. -/
def LeftOk (ss : List ByteArray) (left : Int) (w : World) (e : Ending) (w' : World) : Prop :=
  ∃ r : Int, e = .returned (.int .i64 r) ∧ (0 ≤ r → (tot ss : Int) ≤ left) ∧ w = w'

/-- What is left is told, to the number. -/
def LeftEq (ss : List ByteArray) (left : Int) (w : World) (e : Ending) (w' : World) : Prop :=
  ∃ r : Int, e = .returned (.int .i64 r) ∧ (0 ≤ r → r + (tot ss : Int) = left) ∧ w = w'

end Go.Proofs.YtabignplhkbcpaaGreatDoor

namespace Go.Proofs.YtabignplhkbcpaaGreatDoor
open Go.RowKit

/-- The slice at this address holds these kids, each with its own kids, all below block B. -/
inductive KidsAt (w : World) (B : Nat) : Option Addr → List Ex → Prop
  | nil {A : Option Addr} : KidsAt w B A []
  | mk {g off : Nat} {ks : List Ex} (D : Nat → Option Addr) (c : Nat → Nat) (hg : g < B)
      (h0 : ∀ j (h : j < ks.length), w.cell? ⟨g, off + j * 4, none⟩ = some (.int .i64 ks[j].kind))
      (h1 : ∀ j (h : j < ks.length), w.cell? ⟨g, off + j * 4 + 1, none⟩ = some (.int .i64 ks[j].n))
      (h2 : ∀ j (h : j < ks.length), w.cell? ⟨g, off + j * 4 + 2, none⟩ = some (.string ks[j].s))
      (h3 : ∀ j (h : j < ks.length), w.cell? ⟨g, off + j * 4 + 3, none⟩ = some (.slice (D j) ks[j].kids.length (c j)))
      (hc : ∀ j (h : j < ks.length), ks[j].kids.length ≤ c j)
      (hk : ∀ j (h : j < ks.length), KidsAt w B (D j) ks[j].kids) : KidsAt w B (some ⟨g, off, none⟩) ks

theorem KidsAt.keep {w w' : World} {B : Nat} {A : Option Addr} {ks : List Ex} (h : KidsAt w B A ks) (hb : Below B w w') : KidsAt w' B A ks := by
  induction h with
  | nil => exact .nil
  | mk D c hg h0 h1 h2 h3 hc _ ih =>
    exact .mk D c hg (fun j h => (hb.cell (p := ⟨_, _, none⟩) hg).trans (h0 j h)) (fun j h => (hb.cell (p := ⟨_, _, none⟩) hg).trans (h1 j h))
      (fun j h => (hb.cell (p := ⟨_, _, none⟩) hg).trans (h2 j h)) (fun j h => (hb.cell (p := ⟨_, _, none⟩) hg).trans (h3 j h)) hc ih
theorem KidsAt.wide {w : World} {B B' : Nat} {A : Option Addr} {ks : List Ex} (h : KidsAt w B A ks) (hb : B ≤ B') : KidsAt w B' A ks := by
  induction h with
  | nil => exact .nil
  | mk D c hg h0 h1 h2 h3 hc _ ih => exact .mk D c (Nat.lt_of_lt_of_le hg hb) h0 h1 h2 h3 hc ih

/-- The cells of a kid. -/
structure KidIs (w : World) (B : Nat) (g off : Nat) (e : Ex) (D : Option Addr) (c : Nat) : Prop where
  c0 : w.cell? ⟨g, off, none⟩ = some (.int .i64 e.kind)
  c1 : w.cell? ⟨g, off + 1, none⟩ = some (.int .i64 e.n)
  c2 : w.cell? ⟨g, off + 2, none⟩ = some (.string e.s)
  c3 : w.cell? ⟨g, off + 3, none⟩ = some (.slice D e.kids.length c)
  hc : e.kids.length ≤ c
  hk : KidsAt w B D e.kids
theorem KidsAt.at_ {w : World} {B : Nat} {A : Option Addr} {ks : List Ex} (h : KidsAt w B A ks) {j : Nat} (hj : j < ks.length) :
    ∃ g off D c, A = some ⟨g, off, none⟩ ∧ g < B ∧ KidIs w B g (off + j * 4) ks[j] D c := by
  cases h with
  | nil => simp at hj
  | @mk g off _ D c hg h0 h1 h2 h3 hc hk => exact ⟨g, off, D j, c j, rfl, hg, h0 j hj, h1 j hj, h2 j hj, h3 j hj, hc j hj, hk j hj⟩
theorem KidsAt.of {w : World} {B : Nat} {g off : Nat} {ks : List Ex} (hg : g < B) (h : ∀ j (hj : j < ks.length), ∃ D c, KidIs w B g (off + j * 4) ks[j] D c) : KidsAt w B (some ⟨g, off, none⟩) ks := by
  have h' : ∀ j, ∃ x : Option Addr × Nat, ∀ hj : j < ks.length, KidIs w B g (off + j * 4) ks[j] x.1 x.2 := by
    intro j
    by_cases hj : j < ks.length
    · obtain ⟨D, c, hx⟩ := h j hj
      exact ⟨(D, c), fun _ => hx⟩
    · exact ⟨(none, 0), fun h => absurd h hj⟩
  refine .mk (fun j => (Classical.choose (h' j)).1) (fun j => (Classical.choose (h' j)).2) hg ?_ ?_ ?_ ?_ ?_ ?_ <;> intro j hj <;> have hx := Classical.choose_spec (h' j) hj
  · exact hx.c0
  · exact hx.c1
  · exact hx.c2
  · exact hx.c3
  · exact hx.hc
  · exact hx.hk
theorem KidIs.below {w w' : World} {B g off : Nat} {e : Ex} {D : Option Addr} {c : Nat} (h : KidIs w B g off e D c) (hb : Below B w w') (hg : g < B) : KidIs w' B g off e D c :=
  ⟨(hb.cell (p := ⟨_, _, none⟩) hg).trans h.c0, (hb.cell (p := ⟨_, _, none⟩) hg).trans h.c1, (hb.cell (p := ⟨_, _, none⟩) hg).trans h.c2, (hb.cell (p := ⟨_, _, none⟩) hg).trans h.c3, h.hc, h.hk.keep hb⟩

/-- The value is this one, in this world, below block B. -/
def IsEx (w : World) (B : Nat) (v : Value) (e : Ex) : Prop :=
  ∃ A c, v = .agg #[.int .i64 e.kind, .int .i64 e.n, .string e.s, .slice A e.kids.length c] ∧ e.kids.length ≤ c ∧ KidsAt w B A e.kids
theorem IsEx.below {w w' : World} {B : Nat} {v : Value} {e : Ex} (h : IsEx w B v e) (hb : Below B w w') : IsEx w' B v e := by
  obtain ⟨A, c, h1, h2, h3⟩ := h
  exact ⟨A, c, h1, h2, h3.keep hb⟩
theorem IsEx.wide {w : World} {B B' : Nat} {v : Value} {e : Ex} (h : IsEx w B v e) (hb : B ≤ B') : IsEx w B' v e := by
  obtain ⟨A, c, h1, h2, h3⟩ := h
  exact ⟨A, c, h1, h2, h3.wide hb⟩
theorem KidIs.isEx {w : World} {B g off : Nat} {e : Ex} {D : Option Addr} {c : Nat} (h : KidIs w B g off e D c) : IsEx w B (.agg #[.int .i64 e.kind, .int .i64 e.n, .string e.s, .slice D e.kids.length c]) e := ⟨D, c, rfl, h.hc, h.hk⟩
theorem isEx_zero (w : World) (B : Nat) : IsEx w B (.agg #[.int .i64 0, .int .i64 0, .string ByteArray.empty, .slice none 0 0]) Ex.zero := ⟨none, 0, rfl, Nat.le_refl _, .nil⟩
end Go.Proofs.YtabignplhkbcpaaGreatDoor

namespace Go.Proofs.YtabignplhkbcpaaGreatDoor
open Go.RowKit

def BlkT (w : World) (g : Nat) (cur : Array Value) (t : TypeId) : Prop := w.heap[g]? = some (.cells cur t (0, 0))
theorem BlkT.lt {w : World} {g : Nat} {cur : Array Value} {t : TypeId} (h : BlkT w g cur t) : g < w.heap.size := (Array.getElem?_eq_some_iff.1 h).1
theorem BlkT.cell {w : World} {g : Nat} {cur : Array Value} {t : TypeId} (h : BlkT w g cur t) (i : Nat) : w.cell? ⟨g, i, none⟩ = cur[i]? := by simp [World.cell?, show w.heap[g]? = _ from h]
theorem BlkT.frozen {w : World} {g : Nat} {cur : Array Value} {t : TypeId} (h : BlkT w g cur t) (i : Nat) : w.frozen? ⟨g, i, none⟩ = false := by simp [World.frozen?, show w.heap[g]? = _ from h]
theorem BlkT.set {w : World} {g : Nat} {cur : Array Value} {t : TypeId} (h : BlkT w g cur t) (i : Nat) (v : Value) : BlkT (w.setCell ⟨g, i, none⟩ v) g (cur.setIfInBounds i v) t := heap_setCell_same w g i cur _ v h
theorem BlkT.stay {w w' : World} {g : Nat} {cur : Array Value} {t : TypeId} (h : BlkT w g cur t) (hb : w'.heap[g]? = w.heap[g]?) : BlkT w' g cur t := hb.trans h
theorem BlkT.below {w w' : World} {g : Nat} {cur : Array Value} {t : TypeId} (h : BlkT w g cur t) (hb : Below w.heap.size w w') : BlkT w' g cur t := h.stay (hb.block g h.lt)
theorem blkT_new (w : World) (cur : Array Value) (t : TypeId) : BlkT (w.alloc (.cells cur t)) w.heap.size cur t := World.alloc_heap_new w _
theorem below_new (w : World) (o : Obj) : Below w.heap.size w (w.alloc o) := (Below.refl _ w).alloc (Nat.le_refl _) _
end Go.Proofs.YtabignplhkbcpaaGreatDoor
