/-
  Rows of lines: how they lie in memory, and the contracts of the helpers of the exact laws over them.
-/
import Derived.Test.YtabignplhkbcpaaGreatDoorGN
import Derived.Test.YtabignplhkbcpaaGreatDoorGD
import Derived.Laws.MakeOwn
namespace Go.Proofs.YtabignplhkbcpaaGreatDoor
open Go.RowKit

/-- The cells of a line at a place of a row. -/
def LineC (w : World) (g off : Nat) (s : St) (D1 : Option Addr) (m1 : Nat) (D2 : Option Addr) (m2 : Nat) : Prop :=
  (w.cell? ⟨g, off, none⟩ = some (.int .i64 s.kind) ∧ w.cell? ⟨g, off + 1, none⟩ = some (.string s.name) ∧ w.cell? ⟨g, off + 2, none⟩ = some (.string s.typ) ∧ w.cell? ⟨g, off + 3, none⟩ = some (.int .i64 s.e.kind) ∧ w.cell? ⟨g, off + 4, none⟩ = some (.int .i64 s.e.n) ∧ w.cell? ⟨g, off + 5, none⟩ = some (.string s.e.s) ∧ w.cell? ⟨g, off + 6, none⟩ = some (.slice D1 s.e.kids.length m1) ∧ w.cell? ⟨g, off + 7, none⟩ = some (.int .i64 s.t.kind) ∧ w.cell? ⟨g, off + 8, none⟩ = some (.int .i64 s.t.n) ∧ w.cell? ⟨g, off + 9, none⟩ = some (.string s.t.s) ∧ w.cell? ⟨g, off + 10, none⟩ = some (.slice D2 s.t.kids.length m2)) ∧ s.e.kids.length ≤ m1 ∧ s.t.kids.length ≤ m2
theorem LineC.move {w w' : World} {g off : Nat} {s : St} {D1 D2 : Option Addr} {m1 m2 : Nat} (hC : LineC w g off s D1 m1 D2 m2) (h : ∀ i, off ≤ i → i < off + 11 → w'.cell? ⟨g, i, none⟩ = w.cell? ⟨g, i, none⟩) : LineC w' g off s D1 m1 D2 m2 := by
  obtain ⟨⟨c0, c1, c2, c3, c4, c5, c6, c7, c8, c9, c10⟩, hm1, hm2⟩ := hC
  exact ⟨⟨(h _ (by omega) (by omega)).trans c0, (h _ (by omega) (by omega)).trans c1, (h _ (by omega) (by omega)).trans c2, (h _ (by omega) (by omega)).trans c3, (h _ (by omega) (by omega)).trans c4, (h _ (by omega) (by omega)).trans c5, (h _ (by omega) (by omega)).trans c6, (h _ (by omega) (by omega)).trans c7, (h _ (by omega) (by omega)).trans c8, (h _ (by omega) (by omega)).trans c9, (h _ (by omega) (by omega)).trans c10⟩, hm1, hm2⟩
/-- Lines in a row; K: how their kids lie. -/
def LinesK (K : World → Nat → Option Addr → List Ex → Prop) (w : World) (B : Nat) (A : Option Addr) (xs : List St) : Prop :=
  xs = [] ∨ ∃ g off, A = some ⟨g, off, none⟩ ∧ g < B ∧ ∀ j (hj : j < xs.length), ∃ D1 m1 D2 m2, LineC w g (off + j * 11) xs[j] D1 m1 D2 m2 ∧ K w B D1 xs[j].e.kids ∧ K w B D2 xs[j].t.kids
def LinesAt := LinesK KidsAt
def LinesU := LinesK KidsU
theorem LinesK.keep {K : World → Nat → Option Addr → List Ex → Prop} {w w' : World} {B : Nat} {A : Option Addr} {xs : List St} (hK : ∀ D ks, K w B D ks → K w' B D ks) (h : LinesK K w B A xs) (hb : Below B w w') : LinesK K w' B A xs := by
  rcases h with h | ⟨g, off, h1, h2, h3⟩
  · exact .inl h
  · refine .inr ⟨g, off, h1, h2, fun j hj => ?_⟩
    obtain ⟨D1, m1, D2, m2, q1, q2, q3⟩ := h3 j hj
    exact ⟨D1, m1, D2, m2, q1.move (fun i _ _ => hb.cell (p := ⟨g, i, none⟩) h2), hK _ _ q2, hK _ _ q3⟩
theorem LinesAt.keep {w w' : World} {B : Nat} {A : Option Addr} {xs : List St} (h : LinesAt w B A xs) (hb : Below B w w') : LinesAt w' B A xs := LinesK.keep (fun _ _ h => h.keep hb) h hb
theorem LinesU.keep {w w' : World} {B : Nat} {A : Option Addr} {xs : List St} (h : LinesU w B A xs) (hb : Below B w w') : LinesU w' B A xs := LinesK.keep (fun _ _ h => h.keep hb) h hb
theorem LinesU.wide {w : World} {B C : Nat} {A : Option Addr} {xs : List St} (h : LinesU w B A xs) (hb : B ≤ C) : LinesU w C A xs := by
  rcases h with h | ⟨g, off, h1, h2, h3⟩
  · exact .inl h
  · refine .inr ⟨g, off, h1, by omega, fun j hj => ?_⟩
    obtain ⟨D1, m1, D2, m2, q1, q2, q3⟩ := h3 j hj
    exact ⟨D1, m1, D2, m2, q1, q2.wide hb, q3.wide hb⟩
theorem LinesU.lines {w : World} {B : Nat} {A : Option Addr} {xs : List St} (h : LinesU w B A xs) : LinesAt w B A xs := by
  rcases h with h | ⟨g, off, h1, h2, h3⟩
  · exact .inl h
  · refine .inr ⟨g, off, h1, h2, fun j hj => ?_⟩
    obtain ⟨D1, m1, D2, m2, q1, q2, q3⟩ := h3 j hj
    exact ⟨D1, m1, D2, m2, q1, q2.kids, q3.kids⟩
theorem LinesK.at_ {K : World → Nat → Option Addr → List Ex → Prop} {w : World} {B : Nat} {A : Option Addr} {xs : List St} (h : LinesK K w B A xs) {j : Nat} (hj : j < xs.length) :
    ∃ g off D1 m1 D2 m2, A = some ⟨g, off, none⟩ ∧ g < B ∧ LineC w g (off + j * 11) xs[j] D1 m1 D2 m2 ∧ K w B D1 xs[j].e.kids ∧ K w B D2 xs[j].t.kids := by
  rcases h with h | ⟨g, off, h1, h2, h3⟩
  · subst h; exact absurd hj (Nat.not_lt_zero _)
  · obtain ⟨D1, m1, D2, m2, q⟩ := h3 j hj
    exact ⟨g, off, D1, m1, D2, m2, h1, h2, q⟩
/-- Their weight: one more for each. -/
def stWts (xs : List St) : Nat := (xs.map (fun s => s.wt + 1)).sum
theorem stWts_take (xs : List St) (j : Nat) (h : j < xs.length) : stWts (xs.take (j + 1)) = stWts (xs.take j) + (xs[j].wt + 1) := by
  unfold stWts; rw [List.take_succ_eq_append_getElem h, List.map_append, List.sum_append]; simp
theorem stWts_mem {xs : List St} {s : St} (h : s ∈ xs) : s.wt + 1 ≤ stWts xs := by
  unfold stWts
  induction xs with
  | nil => cases h
  | cons x xs ih =>
    rw [List.map_cons, List.sum_cons]
    rcases List.mem_cons.1 h with rfl | h
    · omega
    · have := ih h; omega
theorem stWts_length (xs : List St) : xs.length ≤ stWts xs := by
  unfold stWts
  induction xs with
  | nil => simp
  | cons x xs ih => rw [List.map_cons, List.sum_cons, List.length_cons]; omega
def stFits (xs : List St) : Prop := ∀ s ∈ xs, s.fits
/-- Kids in blocks of one's own, from this block on. -/
def OwnFrom (lo0 : Nat) (W : World) (e : Ex) (A : Option Addr) : Prop := ∃ lo hi, lo0 ≤ lo ∧ hi ≤ W.heap.size ∧ OwnE W e lo hi A
theorem OwnFrom.keep {lo0 : Nat} {W W' : World} {e : Ex} {A : Option Addr} (h : OwnFrom lo0 W e A) (hs : W.heap.size ≤ W'.heap.size) (hk : ∀ k, lo0 ≤ k → k < W.heap.size → W'.heap[k]? = W.heap[k]?) : OwnFrom lo0 W' e A := by
  obtain ⟨lo, hi, h1, h2, h4⟩ := h
  exact ⟨lo, hi, h1, by omega, own_keep _ _ _ _ (fun k q1 q2 => hk k (by omega) (by omega)) h4⟩
theorem OwnFrom.kids {lo0 : Nat} {W : World} {e : Ex} {A : Option Addr} (h : OwnFrom lo0 W e A) : KidsU W W.heap.size A e.kids := by
  obtain ⟨lo, hi, _, h2, h3⟩ := h
  exact own_kidsU e lo hi A _ h3 h2
/-- A row of cells set one behind the other: what was ahead is as it was. -/
theorem setAll_row (g : Nat) : ∀ (vs : List Value) (k : Nat) (cur : Array Value) (w : World), BlkS w g cur → k + vs.length ≤ cur.size →
    (∀ i, i < k → (setAll w g k vs).cell? ⟨g, i, none⟩ = w.cell? ⟨g, i, none⟩) ∧ (∀ i v, vs[i]? = some v → (setAll w g k vs).cell? ⟨g, k + i, none⟩ = some v) ∧ ∃ cur', BlkS (setAll w g k vs) g cur' ∧ cur'.size = cur.size := by
  intro vs
  induction vs with
  | nil => intro k cur w h _; exact ⟨fun _ _ => rfl, fun i v hv => by simp at hv, cur, h, rfl⟩
  | cons v vs ih =>
    intro k cur w h hl
    rw [List.length_cons] at hl
    have h1 := h.set k v
    obtain ⟨a1, a2, cur', a3, a4⟩ := ih (k + 1) _ _ h1 (by rw [Array.size_setIfInBounds]; omega)
    refine ⟨fun i hi => ?_, fun i u hu => ?_, cur', a3, by rw [a4, Array.size_setIfInBounds]⟩
    · rw [setAll, a1 i (by omega), h1.cell, h.cell, Array.getElem?_setIfInBounds_ne (by omega)]
    · cases i with
      | zero =>
        have e : v = u := by simpa using hu
        subst e
        exact (a1 k (by omega)).trans (by rw [h1.cell, Array.getElem?_setIfInBounds_self_of_lt (by omega)])
      | succ i =>
        have := a2 i u (by simpa using hu)
        rw [show k + (i + 1) = k + 1 + i by omega]
        exact this
def zeroSt : Array Value := #[.int .i64 0, .string ByteArray.empty, .string ByteArray.empty, .int .i64 0, .int .i64 0, .string ByteArray.empty, .slice none 0 0, .int .i64 0, .int .i64 0, .string ByteArray.empty, .slice none 0 0]
theorem infoSt : (Tryz.prog.info? 36).map (fun i => (i.zero, i.size)) = some (some (.agg zeroSt), 11) := by kernel_rfl
theorem bytesSt : (Tryz.prog.info? 36).map (fun i => decide (i.bytes ≤ 200)) = some true := by kernel_rfl
theorem run_makeSt (n : Nat) (hn : n ≤ 2 ^ 40) (w : World) : (Instr.makeSlice 23 (.int .i64 (n : Int)) (.int .i64 (n : Int))).run Tryz.prog w = .ok (.slice (some ⟨w.heap.size, 0, none⟩) n n) (w.alloc (.cells (madeCells zeroSt (n * 11)) 36)) := by
  obtain ⟨i, hi, hzz⟩ := Option.map_eq_some_iff.1 infoSt
  simp only [Prod.mk.injEq] at hzz
  obtain ⟨hz, hs⟩ := hzz
  have hb := bytesSt
  rw [hi] at hb
  have hb2 : i.bytes ≤ 200 := by simpa using hb
  have hbn : i.bytes * n ≤ 200 * 2 ^ 40 := Nat.mul_le_mul hb2 hn
  have hr := run_make (P := Tryz.prog) w 23 36 i _ Tryz.underlying23 hi hz .i64 .i64 n n (by omega) (Int.le_refl _) (by omega) (by omega)
  rw [hs] at hr
  simp only [Int.toNat_natCast] at hr
  exact hr
end Go.Proofs.YtabignplhkbcpaaGreatDoor
