/-
  'laws.FnExprBent' returns true at every code.
  Conditions: the library's variables hold what their initialisers lay (tied to the program's text); every slice of bytes.
-/
import Derived.Test.YtaclndbilpaboaaDoorDrawOk
import Derived.Test.YtaclndbilpaboaaDoorSpecMany
import Derived.Test.YtaclndbilpaboaaDoorExprWords
import Derived.Test.YtaclndbilpaboaaDoorRowK
import Derived.Test.YtaclndbilpaboaaDoorLaid
import Derived.Test.YtaclndbilpaboaaDoorCards
import Derived.Test.YtaclndbilpaboaaDoorTie
import Derived.Test.YtaclndbilpaboaaDoorRows
import Derived.WalkKit
import Derived.ProofKit
import Derived.OpenShut
import Derived.ShutString
import Derived.ChangeOld
import Derived.Below
import Derived.Lib.SmallJoins
import Derived.SliceStrings
namespace Go.Proofs.YtaclndbilpaboaaDoor.fnExprBent
open Go.ChangeShapes Go.WideShapes Go.ChangeAt Go.RowKit Go.Joins
open Go.ChangeMaps (open_string shut_string)


theorem calls_named {f : Nat} {args : Array Value} {Y : World} {R : Ending → World → Prop} (h : ∀ Z, Z = Y → Calls Tryd.prog f args Z R) : Calls Tryd.prog f args Y R := h Y rfl
theorem not_ok_of {e : Ex} (h : ∀ p : Pt, p.ok = true → e ≠ p.ex) : okE e = false := by
  cases hk : okE e with
  | false => rfl
  | true => obtain ⟨p, h1, h2⟩ := (okE_iff e).1 hk; exact absurd h1 (h p h2)
theorem bent_more (p : Pt) (n : Int) (x : Ex) : okE (.mk p.ex.kind n p.ex.s (p.ex.kids ++ [x])) = false := by
  refine not_ok_of fun q _ hq => ?_
  have h1 := congrArg Ex.kind hq
  have h2 := congrArg (fun e => e.kids.length) hq
  cases p <;> cases q <;> simp [Pt.ex, Ex.kind, Ex.kids] at h1 h2
theorem bent_kind (n : Int) (s : ByteArray) (ks : List Ex) : okE (.mk 5 n s ks) = false := by
  refine not_ok_of fun q _ hq => ?_
  have h1 := congrArg Ex.kind hq
  cases q <;> simp [Pt.ex, Ex.kind] at h1
theorem bent_n (k : Int) (s : ByteArray) (ks : List Ex) : okE (.mk k (-1) s ks) = false := by
  refine not_ok_of fun q hok hq => ?_
  have h1 := congrArg Ex.n hq
  have h2 := ok_fine hok
  cases q <;> simp [Pt.ex, Ex.n, Pt.fine] at h1 h2
  omega
theorem bent_s (k n : Int) (ks : List Ex) : okE (.mk k n sLet ks) = false := by
  refine not_ok_of fun q hok hq => ?_
  have h1 := congrArg Ex.s hq
  have h2 := ok_fine hok
  cases q with
  | num m => exact absurd h1 (by show sLet ≠ ByteArray.empty; decide)
  | name s => obtain rfl : sLet = s := h1; exact absurd h2 (by show ¬ nameB sLet = true; decide)
  | two s a b => obtain rfl : sLet = s := h1; simp only [Pt.fine, Bool.and_eq_true, decide_eq_true_eq] at h2; exact absurd h2.1 (by decide)
  | «as» s a => obtain rfl : sLet = s := h1; simp only [Pt.fine, Bool.and_eq_true] at h2; exact absurd h2.1 (by decide)

theorem cell_alloc {w : World} {k j : Nat} {o : Obj} (h : k < w.heap.size) : (w.alloc o).cell? ⟨k, j, none⟩ = w.cell? ⟨k, j, none⟩ := World.cell?_alloc_lt w o ⟨k, j, none⟩ h
/-- What holds behind the two appends. -/
theorem bent_facts {X W7 V : World} {cs : Array Value} {m g7 c7 g8 c8 : Nat} {ds : List Kd} {k : Kd} {o : Obj} (hN : (X.alloc (.cells cs 29)).heap[X.heap.size]? = some (.cells cs 29))
    (h7 : W7.ownsRow (X.heap.size + 1) 29 4 (.slice (some ⟨g7, 0, none⟩) m c7) m (rowK ([] ++ ds))) (hg7 : ((X.alloc (.cells cs 29)).alloc (.cells #[] 29)).grownBy W7 (some (X.heap.size + 1)))
    (h8 : V.ownsRow (X.heap.size + 1) 29 4 (.slice (some ⟨g8, 0, none⟩) (m + 1) c8) (m + 1) (rowK ([] ++ ds ++ [k]))) (hg8 : (W7.alloc o).grownBy V (some g7)) (hl8 : g8 < V.heap.size) :
    X.heap.size + 1 ≤ g7 ∧ X.heap.size + 1 ≤ g8 ∧ Blk V X.heap.size cs ∧ Below X.heap.size X V ∧ X.heap.size + 3 ≤ V.heap.size ∧ V.ownsRow (X.heap.size + 1) 29 4 (.slice (some ⟨g8, 0, none⟩) (m + 1) c8) (m + 1) (rowK (ds ++ [k])) := by
  have l7 := (h7.lt g7 rfl).1
  have l8 := (h8.lt g8 rfl).1
  have z7 := hg7.size
  have z8 := hg8.size
  simp only [World.size_alloc] at z7 z8
  refine ⟨l7, l8, ?_, ?_, by omega, by simpa using h8⟩
  · refine (hg8.block _ (by simp; omega) (fun e => by have := Option.some.inj e; omega)).trans ((Below.heap_alloc _ _ _ (by omega)).trans ?_)
    refine (hg7.block _ (by simp; omega) (fun e => by have := Option.some.inj e; omega)).trans ((Below.heap_alloc _ _ _ (by simp)).trans ?_)
    exact hN
  · have q1 := (((Below.refl _ X).alloc (Nat.le_refl _) (.cells cs 29)).alloc (by simp) (.cells #[] 29)).grown hg7 (by simp; omega) (fun k e => by have := Option.some.inj e; omega)
    exact (q1.alloc q1.size o).grown hg8 (by have := q1.size; simp; omega) (fun k e => by have := Option.some.inj e; omega)
theorem bent_boxes (V1 V4 : World) (B C D : Array Value) (h : V4 = ((V1.alloc (.cells B 29)).alloc (.cells C 29)).alloc (.cells D 29)) :
    V1.heap.size + 3 ≤ V4.heap.size ∧ Blk V4 V1.heap.size B ∧ Blk V4 (V1.heap.size + 1) C ∧ Blk V4 (V1.heap.size + 1 + 1) D ∧ Below V1.heap.size V1 V4 := by
  subst h
  refine ⟨by simp, ?_, ?_, ?_, (((Below.refl _ V1).alloc (Nat.le_refl _) _).alloc (by simp) _).alloc (by simp; omega) _⟩
  · unfold Blk
    rw [Below.heap_alloc _ _ _ (by simp; omega), Below.heap_alloc _ _ _ (by simp)]
    exact World.alloc_heap_new V1 _
  · have h := World.alloc_heap_new (V1.alloc (.cells B 29)) (.cells C 29)
    rw [World.size_alloc] at h
    unfold Blk
    rw [Below.heap_alloc _ _ _ (by simp)]
    exact h
  · have h := World.alloc_heap_new ((V1.alloc (.cells B 29)).alloc (.cells C 29)) (.cells D 29)
    rw [World.size_alloc, World.size_alloc] at h
    exact h
/-- The cells of the drawn one behind the store, and behind what is laid later. -/
theorem bent_cells {X V : World} {b n : Nat} {s v0 v1 v2 v3 : Value} (hR : V.heap[b]? = X.heap[b]?) (hb : b < n) (hn : n < V.heap.size) (c0 : X.cell? ⟨b, 0, none⟩ = some v0) (c1 : X.cell? ⟨b, 1, none⟩ = some v1) (c2 : X.cell? ⟨b, 2, none⟩ = some v2) (c3 : X.cell? ⟨b, 3, none⟩ = some v3) :
    ((V.setCell ⟨n, 3, none⟩ s).cell? ⟨b, 0, none⟩ = some v0 ∧ (∀ o, ((V.setCell ⟨n, 3, none⟩ s).alloc o).cell? ⟨b, 0, none⟩ = some v0) ∧ ∀ o o', (((V.setCell ⟨n, 3, none⟩ s).alloc o).alloc o').cell? ⟨b, 0, none⟩ = some v0) ∧
    ((V.setCell ⟨n, 3, none⟩ s).cell? ⟨b, 1, none⟩ = some v1 ∧ (∀ o, ((V.setCell ⟨n, 3, none⟩ s).alloc o).cell? ⟨b, 1, none⟩ = some v1) ∧ ∀ o o', (((V.setCell ⟨n, 3, none⟩ s).alloc o).alloc o').cell? ⟨b, 1, none⟩ = some v1) ∧
    ((V.setCell ⟨n, 3, none⟩ s).cell? ⟨b, 2, none⟩ = some v2 ∧ (∀ o, ((V.setCell ⟨n, 3, none⟩ s).alloc o).cell? ⟨b, 2, none⟩ = some v2) ∧ ∀ o o', (((V.setCell ⟨n, 3, none⟩ s).alloc o).alloc o').cell? ⟨b, 2, none⟩ = some v2) ∧
    ((V.setCell ⟨n, 3, none⟩ s).cell? ⟨b, 3, none⟩ = some v3 ∧ (∀ o, ((V.setCell ⟨n, 3, none⟩ s).alloc o).cell? ⟨b, 3, none⟩ = some v3) ∧ ∀ o o', (((V.setCell ⟨n, 3, none⟩ s).alloc o).alloc o').cell? ⟨b, 3, none⟩ = some v3) := by
  have h0 : (V.setCell ⟨n, 3, none⟩ s).heap[b]? = X.heap[b]? := (Below.heap_setCell _ _ _ b (by show b ≠ n; omega)).trans hR
  have key : ∀ j v, X.cell? ⟨b, j, none⟩ = some v → ((V.setCell ⟨n, 3, none⟩ s).cell? ⟨b, j, none⟩ = some v ∧ (∀ o, ((V.setCell ⟨n, 3, none⟩ s).alloc o).cell? ⟨b, j, none⟩ = some v) ∧ ∀ o o', (((V.setCell ⟨n, 3, none⟩ s).alloc o).alloc o').cell? ⟨b, j, none⟩ = some v) := by
    intro j v hv
    have q0 := (World.cell?_of_block (a := ⟨b, j, none⟩) h0).trans hv
    have q1 : ∀ o, ((V.setCell ⟨n, 3, none⟩ s).alloc o).cell? ⟨b, j, none⟩ = some v := fun o => (cell_alloc (by simp; omega)).trans q0
    exact ⟨q0, q1, fun o o' => (cell_alloc (by simp; omega)).trans (q1 o)⟩
  exact ⟨key 0 v0 c0, key 1 v1 c1, key 2 v2 c2, key 3 v3 c3⟩
theorem bent_box {V : World} {n : Nat} {v0 v1 v2 v3 : Value} (s : Value) (h : Blk V n #[v0, v1, v2, v3]) :
    (∀ o o' o'', ((((V.setCell ⟨n, 3, none⟩ s).alloc o).alloc o').alloc o'').cell? ⟨n, 0, none⟩ = some v0) ∧ (∀ o o' o'', ((((V.setCell ⟨n, 3, none⟩ s).alloc o).alloc o').alloc o'').cell? ⟨n, 1, none⟩ = some v1) ∧
    (∀ o o' o'', ((((V.setCell ⟨n, 3, none⟩ s).alloc o).alloc o').alloc o'').cell? ⟨n, 2, none⟩ = some v2) ∧ (∀ o o' o'', ((((V.setCell ⟨n, 3, none⟩ s).alloc o).alloc o').alloc o'').cell? ⟨n, 3, none⟩ = some s) := by
  have hl := h.lt
  have hb : Blk (V.setCell ⟨n, 3, none⟩ s) n #[v0, v1, v2, s] := h.set 3 s
  have key : ∀ j o o' o'', ((((V.setCell ⟨n, 3, none⟩ s).alloc o).alloc o').alloc o'').cell? ⟨n, j, none⟩ = (#[v0, v1, v2, s] : Array Value)[j]? := by
    intro j o o' o''
    rw [cell_alloc (by simp; omega), cell_alloc (by simp; omega), cell_alloc (by simp; omega)]
    exact hb.cell j
  exact ⟨key 0, key 1, key 2, key 3⟩

set_option linter.unusedSimpArgs false in
set_option maxRecDepth 100000 in
set_option maxHeartbeats 16000000 in
theorem walk (A : Option Addr) (len cap : Nat) (w : World) (h1 : InCode w A len cap) (hlaid : LaidW w) :
    Calls Tryd.prog 6 #[.slice A len cap] w fun r w' => r = .returned (.bool true) ∧ Below w.heap.size w w' := by
  by_cases hl1 : 1048576 < len
  · have q1 : decide ((1048576 : Int) < (len : Int)) = true := by simp; omega
    clear h1
    go_enter Tryd.func6, Tryd.ntmps6
    go_wp2_with fail
    go_ret
    exact ⟨rfl, Below.refl _ _⟩
  have q1 : decide ((1048576 : Int) < (len : Int)) = false := by simp; omega
  have H1 := Lib.hid h1
  clear h1
  go_enter Tryd.func6, Tryd.ntmps6
  go_wp2_with fail
  refine (drawExprOk_any A len cap w H1.out).mono ?_
  rintro r w1 ⟨e, Ae, c, rfl, hc, hO, _, hwt, hb1⟩
  obtain ⟨W2, hW2⟩ : ∃ W2, W2 = w1.alloc (.cells #[.int .i64 e.kind, .int .i64 e.n, .string e.s, .slice Ae e.kids.length c] 29) := ⟨_, rfl⟩
  have hb2 : Below w1.heap.size w1 W2 := by rw [hW2]; exact (Below.refl _ w1).alloc (Nat.le_refl _) _
  have hs2 : w1.heap.size < W2.heap.size := by rw [hW2]; simp
  have K2 : KidsAt W2 w1.heap.size Ae e.kids := (own_kids e _ _ Ae w1.heap.size hO (Nat.le_refl _)).keep hb2
  have B2 := hb1.trans (hb2.mono hb1.size)
  have a0 : W2.cell? ⟨w1.heap.size, 0, none⟩ = some (.int .i64 e.kind) := by rw [hW2]; exact cell_made4 w1 _ _ 0 _ rfl
  have a1 : W2.cell? ⟨w1.heap.size, 1, none⟩ = some (.int .i64 e.n) := by rw [hW2]; exact cell_made4 w1 _ _ 1 _ rfl
  have a2 : W2.cell? ⟨w1.heap.size, 2, none⟩ = some (.string e.s) := by rw [hW2]; exact cell_made4 w1 _ _ 2 _ rfl
  have a3 : W2.cell? ⟨w1.heap.size, 3, none⟩ = some (.slice Ae e.kids.length c) := by rw [hW2]; exact cell_made4 w1 _ _ 3 _ rfl
  have HS := Lib.hid (show ∀ W, Below W2.heap.size W2 W → W.cell? ⟨w1.heap.size, 0, none⟩ = some (.int .i64 e.kind) ∧ W.cell? ⟨w1.heap.size, 1, none⟩ = some (.int .i64 e.n) ∧ W.cell? ⟨w1.heap.size, 2, none⟩ = some (.string e.s) ∧ W.cell? ⟨w1.heap.size, 3, none⟩ = some (.slice Ae e.kids.length c) ∧ Below W2.heap.size W2 W from fun W hW => ⟨(hW.cell (p := ⟨w1.heap.size, 0, none⟩) hs2).trans a0, (hW.cell (p := ⟨w1.heap.size, 1, none⟩) hs2).trans a1, (hW.cell (p := ⟨w1.heap.size, 2, none⟩) hs2).trans a2, (hW.cell (p := ⟨w1.heap.size, 3, none⟩) hs2).trans a3, hW⟩)
  have HI := Lib.hid (fun (W : World) (hW : Below W2.heap.size W2 W) => exprOk_any e Ae c w1.heap.size W (K2.keep (hW.mono (Nat.le_of_lt hs2))) hc (Nat.le_trans (Nat.le_of_lt hs2) hW.size) (by omega))
  have HM := Lib.hid (fun (W : World) (hW : Below W2.heap.size W2 W) => specExprOk_any e Ae c w1.heap.size W (K2.keep (hW.mono (Nat.le_of_lt hs2))) hc (Nat.le_trans (Nat.le_of_lt hs2) hW.size) (by omega))
  have HW := Lib.hid (fun (W : World) (hW : Below W2.heap.size W2 W) => exprWords_any e Ae c w1.heap.size W (K2.keep (hW.mono (Nat.le_of_lt hs2))) hc (Nat.le_trans (Nat.le_of_lt hs2) hW.size) (by omega) ((hlaid.below B2).below hW))
  have HK2 := Lib.hid K2
  have HB2 := Lib.hid B2
  clear hO hb1 hb2 K2 B2 H1 hlaid
  rw [hW2] at a0 a1 a2 a3
  obtain ⟨X, hX⟩ : ∃ X, X = W2 := ⟨_, rfl⟩
  have BX : Below W2.heap.size W2 X := by rw [hX]; exact Below.refl _ _
  cases hok : okE e
  · rw [hok] at HI HM
    have hwn : wordsE e = [] := by unfold wordsE; rw [show okP e = none from by cases h : okP e with | none => rfl | some p => rw [← okP_isSome, h] at hok; cases hok]
    rw [hwn] at HW
    unfold Wordy at HW
    simp only [List.length_nil, List.map_nil] at HW
    clear hok hwn
    go_wp2_with fail
    rw [← hW2, ← hX]
    clear hX
    go_region_held3 (fun W => W.cell? ⟨w1.heap.size, 0, none⟩ = some (.int .i64 e.kind) ∧ W.cell? ⟨w1.heap.size, 1, none⟩ = some (.int .i64 e.n) ∧ W.cell? ⟨w1.heap.size, 2, none⟩ = some (.string e.s) ∧ W.cell? ⟨w1.heap.size, 3, none⟩ = some (.slice Ae e.kids.length c) ∧ Below W2.heap.size W2 W)
      (first | with_reducible exact HS.out _ BX | with_reducible exact HS.out _ BX.drew)
      (first | (go_at_call 10; refine calls_named ?_; intro Y hY; have hXY : Below X.heap.size X Y := (by rw [hY]; first | exact Below.refl _ _ | exact (Below.refl _ _).drew); replace BX := BX.trans (hXY.mono BX.size); refine (HI.out Y BX).mono ?_; rintro r X ⟨rfl, hYX⟩; replace BX := BX.trans (hYX.mono BX.size); clear hY hXY hYX) | (go_at_call 8; refine calls_named ?_; intro Y hY; have hXY : Below X.heap.size X Y := (by rw [hY]; first | exact Below.refl _ _ | exact (Below.refl _ _).drew); replace BX := BX.trans (hXY.mono BX.size); refine (HM.out Y BX).mono ?_; rintro r X ⟨rfl, hYX⟩; replace BX := BX.trans (hYX.mono BX.size); clear hY hXY hYX))

    go_wp2_with fail
    go_region_held3 (fun W => W.cell? ⟨w1.heap.size, 0, none⟩ = some (.int .i64 e.kind) ∧ W.cell? ⟨w1.heap.size, 1, none⟩ = some (.int .i64 e.n) ∧ W.cell? ⟨w1.heap.size, 2, none⟩ = some (.string e.s) ∧ W.cell? ⟨w1.heap.size, 3, none⟩ = some (.slice Ae e.kids.length c) ∧ Below W2.heap.size W2 W)
      (first | with_reducible exact HS.out _ BX | with_reducible exact HS.out _ BX.drew)
      (first | (go_at_call 10; refine calls_named ?_; intro Y hY; have hXY : Below X.heap.size X Y := (by rw [hY]; first | exact Below.refl _ _ | exact (Below.refl _ _).drew); replace BX := BX.trans (hXY.mono BX.size); refine (HI.out Y BX).mono ?_; rintro r X ⟨rfl, hYX⟩; replace BX := BX.trans (hYX.mono BX.size); clear hY hXY hYX) | (go_at_call 8; refine calls_named ?_; intro Y hY; have hXY : Below X.heap.size X Y := (by rw [hY]; first | exact Below.refl _ _ | exact (Below.refl _ _).drew); replace BX := BX.trans (hXY.mono BX.size); refine (HM.out Y BX).mono ?_; rintro r X ⟨rfl, hYX⟩; replace BX := BX.trans (hYX.mono BX.size); clear hY hXY hYX) | (go_at_call 13; refine calls_named ?_; intro Y hY; have hXY : Below X.heap.size X Y := (by rw [hY]; first | exact Below.refl _ _ | exact (Below.refl _ _).drew); replace BX := BX.trans (hXY.mono BX.size); refine (HW.out Y BX).mono ?_; rintro r X ⟨v, rfl, hv, hYX⟩; obtain ⟨Av, cv, rfl, _⟩ := own_slice hv; replace BX := BX.trans (hYX.mono BX.size); clear hY hXY hYX))

    go_wp2_with fail
    go_ret
    exact ⟨rfl, HB2.out.trans (BX.mono HB2.out.size)⟩
  rw [hok] at HI HM
  obtain ⟨p, hp⟩ : ∃ p, okP e = some p := by
    cases h : okP e with
    | none => rw [← okP_isSome, h] at hok; cases hok
    | some p => exact ⟨p, rfl⟩
  obtain ⟨hex, _⟩ := okP_some hp
  have HNA := Lib.hid (fun x : Ex => (show okE (.mk e.kind e.n e.s (e.kids ++ [x])) = false by rw [hex]; exact bent_more p _ x))
  have HND := Lib.hid (bent_s e.kind e.n e.kids)
  have hkl : e.kids.length ≤ 2 := by rw [hex]; cases p <;> simp [Pt.ex, Ex.kids]
  clear hok hp hex HW
  go_wp2_with fail
  rw [← hW2, ← hX]
  clear hX
  go_region_held3 (fun W => W.cell? ⟨w1.heap.size, 0, none⟩ = some (.int .i64 e.kind) ∧ W.cell? ⟨w1.heap.size, 1, none⟩ = some (.int .i64 e.n) ∧ W.cell? ⟨w1.heap.size, 2, none⟩ = some (.string e.s) ∧ W.cell? ⟨w1.heap.size, 3, none⟩ = some (.slice Ae e.kids.length c) ∧ Below W2.heap.size W2 W)
    (first | with_reducible exact HS.out _ BX | with_reducible exact HS.out _ BX.drew)
    (first | (go_at_call 10; refine calls_named ?_; intro Y hY; have hXY : Below X.heap.size X Y := (by rw [hY]; first | exact Below.refl _ _ | exact (Below.refl _ _).drew); replace BX := BX.trans (hXY.mono BX.size); refine (HI.out Y BX).mono ?_; rintro r X ⟨rfl, hYX⟩; replace BX := BX.trans (hYX.mono BX.size); clear hY hXY hYX) | (go_at_call 8; refine calls_named ?_; intro Y hY; have hXY : Below X.heap.size X Y := (by rw [hY]; first | exact Below.refl _ _ | exact (Below.refl _ _).drew); replace BX := BX.trans (hXY.mono BX.size); refine (HM.out Y BX).mono ?_; rintro r X ⟨rfl, hYX⟩; replace BX := BX.trans (hYX.mono BX.size); clear hY hXY hYX))

  clear HM hW2 a0 a1 a2 a3
  obtain ⟨c0, c1, c2, c3, _⟩ := HS.out X BX
  have KX := HK2.out.keep (BX.mono (Nat.le_of_lt hs2))
  obtain ⟨ds, hds, hdk, hsrc⟩ := KX.row
  have hzX := BX.size
  have hds1 : ds.length = e.kids.length := by rw [← hds, List.length_map]
  have hsrc6 : ∀ o o', e.kids.length = 0 ∨ ∃ g off, Ae = some ⟨g, off, none⟩ ∧ ∀ j u, (rowK ds)[j]? = some u → ((X.alloc o).alloc o').cell? ⟨g, off + j, none⟩ = some u := by
    intro o o'
    rcases hsrc with h | ⟨g, off, h2, h3, h4⟩
    · exact .inl (by rw [h]; rfl)
    · exact .inr ⟨g, off, h2, fun j u hj => ((cell_alloc (by simp; omega)).trans (cell_alloc (by omega))).trans (h4 j u hj)⟩
  have hown6 : ∀ o, ((X.alloc o).alloc (.cells #[] 29)).ownsRow (X.heap.size + 1) 29 4 (.slice (some ⟨X.heap.size + 1, 0, none⟩) 0 0) 0 (rowK []) := fun o => by
    have h := World.alloc_heap_new (X.alloc o) (.cells #[] 29)
    rw [World.size_alloc] at h
    exact ⟨rfl, .inr ⟨X.heap.size + 1, 0, #[], rfl, Nat.le_refl _, h, Nat.le_refl _, by simp [maxLen], rfl, rfl⟩⟩
  have e3 : ∀ o o', ((X.alloc o).alloc o').cell? ⟨w1.heap.size, 3, none⟩ = some (.slice Ae e.kids.length c) := fun o o' => ((cell_alloc (by simp; omega)).trans (cell_alloc (by omega))).trans c3
  have HSRC := Lib.hid hsrc6
  have HOW := Lib.hid hown6
  have HDK := Lib.hid hdk
  have HDS := Lib.hid hds
  have HKX := Lib.hid KX
  have HXN := Lib.hid (show (X.alloc (.cells #[.int .i64 e.kind, .int .i64 e.n, .string e.s, .slice Ae e.kids.length c] 29)).heap[X.heap.size]? = some (.cells #[.int .i64 e.kind, .int .i64 e.n, .string e.s, .slice Ae e.kids.length c] 29) from World.alloc_heap_new X _)
  clear hsrc hsrc6 hown6 hdk hds KX HI
  go_wp2_with (first | (at_builtin; refine wpList_append_kids rfl _ _ rfl (X.heap.size + 1) (X.heap.size + 1) 0 0 [] rfl (HOW.out _) Ae e.kids.length c ds rfl hds1 (HSRC.out _ _) (by omega) (by simp) ?_; intro g7 c7 W7 hown7 hgrow7 hlt7; rw [Nat.zero_add] at hown7 ⊢; have HO7 := Lib.hid hown7; have HG7 := Lib.hid hgrow7; have hz7 : X.heap.size + 2 ≤ W7.heap.size := (by have := hgrow7.size; simp at this; exact this); clear hown7 hgrow7) | (at_builtin; refine wpList_append_kids rfl _ _ rfl (X.heap.size + 1) g7 e.kids.length c7 ([] ++ ds) rfl (HO7.out.alloc _) (some ⟨W7.heap.size, 0, none⟩) 1 1 [(.mk 1 0 { data := #[] } [], none, 0)] rfl rfl (.inr ⟨W7.heap.size, 0, rfl, fun j u hj => by rw [Nat.zero_add]; exact (Blk.cell (World.alloc_heap_new W7 _) j).trans (by simpa [rowK, kdC, kidCells, Ex.kind, Ex.n, Ex.s, Ex.kids] using hj)⟩) (by omega) (by simp; omega) ?_; intro g8 c8 V hown8 hgrow8 hlt8; obtain ⟨hge7, hge8, HBA, HRV, hzV, HO8⟩ := bent_facts (HXN.out) (HO7.out) (HG7.out) hown8 hgrow8 hlt8; have sA3 : V.cell? ⟨X.heap.size, 3, none⟩ = some (.slice Ae e.kids.length c) := HBA.cell 3; have fA3 := HBA.frozen 3; have HBA := Lib.hid HBA; have HRV := Lib.hid HRV; have HO8 := Lib.hid HO8; obtain ⟨⟨E0, E0a, E0b⟩, ⟨E1, E1a, E1b⟩, ⟨E2, E2a, E2b⟩, E3, E3a, E3b⟩ := bent_cells (n := X.heap.size) (s := .slice (some ⟨g8, 0, none⟩) (e.kids.length + 1) c8) (HRV.out.block w1.heap.size (by omega)) (by omega) (by omega) c0 c1 c2 c3; obtain ⟨A0, A1, A2, A3⟩ := bent_box (.slice (some ⟨g8, 0, none⟩) (e.kids.length + 1) c8) HBA.out; clear hown8 hgrow8))
  clear E0 E1 E2 E3 E0a E1a E2a E3a E0b E1b E2b E3b A0 A1 A2 A3 sA3 fA3
  obtain ⟨V1, hV1⟩ : ∃ V1, V1 = V.setCell ⟨X.heap.size, 3, none⟩ (.slice (some ⟨g8, 0, none⟩) (e.kids.length + 1) c8) := ⟨_, rfl⟩
  have hz1 : V1.heap.size = V.heap.size := by rw [hV1]; simp
  rw [← hV1]
  obtain ⟨V4, hV4⟩ : ∃ V4, V4 = ((V1.alloc (.cells #[.int .i64 5, .int .i64 e.n, .string e.s, .slice Ae e.kids.length c] 29)).alloc (.cells #[.int .i64 e.kind, .int .i64 (-1), .string e.s, .slice Ae e.kids.length c] 29)).alloc (.cells #[.int .i64 e.kind, .int .i64 e.n, .string { data := #[108, 101, 116] }, .slice Ae e.kids.length c] 29) := ⟨_, rfl⟩
  rw [← hV4]
  obtain ⟨hz4, hbb, hbc, hbd, hold⟩ := bent_boxes V1 V4 _ _ _ hV4
  rw [hz1] at hz4 hbb hbc hbd hold
  have hR4 : ∀ b, b < V.heap.size → b ≠ X.heap.size → V4.heap[b]? = V.heap[b]? := fun b h1 h2 => (hold.block b h1).trans (by rw [hV1]; exact Below.heap_setCell _ _ _ b h2)
  have hXV1 : Below X.heap.size X V1 := by rw [hV1]; exact HRV.out.setCell (p := ⟨X.heap.size, 3, none⟩) (Nat.le_refl _) _
  have hX4 : Below X.heap.size X V4 := hXV1.trans (hold.mono (by omega))
  obtain ⟨hO4, hc8⟩ : V4.ownsRow (X.heap.size + 1) 29 4 (.slice (some ⟨g8, 0, none⟩) (e.kids.length + 1) c8) (e.kids.length + 1) (rowK (ds ++ [(.mk 1 0 { data := #[] } [], none, 0)])) ∧ e.kids.length + 1 ≤ c8 := by
    rcases HO8.out.2 with ⟨h, _⟩ | ⟨g, cap, cur, hv, hb, hg, hcc, hrest⟩
    · cases h
    · have hlg := (Array.getElem?_eq_some_iff.1 hg).1
      refine ⟨⟨HO8.out.1, .inr ⟨g, cap, cur, hv, hb, (hR4 g hlg (by omega)).trans hg, hcc, hrest⟩⟩, ?_⟩
      injection hv with _ _ h3
      omega
  have hmap : (ds ++ [((Ex.mk 1 0 { data := #[] } [], none, 0) : Kd)]).map (fun d : Kd => d.1) = e.kids ++ [Ex.mk 1 0 { data := #[] } []] := by rw [List.map_append, HDS.out]; rfl
  have KA : KidsAt V4 V4.heap.size (some ⟨g8, 0, none⟩) (e.kids ++ [Ex.mk 1 0 { data := #[] } []]) := by
    rw [← hmap]
    refine kidsAt_row hO4 (by rw [List.length_append, hds1]; rfl) (by omega) (fun d hd => ?_)
    rcases List.mem_append.1 hd with hd | hd
    · have hq := HDK.out d hd
      exact ⟨hq.1, (hq.2.keep (hX4.mono (by omega))).wide (by omega)⟩
    · obtain rfl : d = (.mk 1 0 { data := #[] } [], none, 0) := by simpa using hd
      exact ⟨Nat.le_refl _, .nil⟩
  have hwa : (Ex.mk e.kind e.n e.s (e.kids ++ [Ex.mk 1 0 { data := #[] } []])).wt ≤ 2 ^ 40 := by
    obtain ⟨k, n, s, ks⟩ := e
    have hw2 : s.size + Ex.wts ks ≤ 2000 := hwt
    simp only [Ex.wt, Ex.kids, Ex.s, Ex.wts_append, Ex.wts]
    have : (ByteArray.mk #[]).size = 0 := rfl
    omega
  have hwk : Ex.wts e.kids ≤ 2000 ∧ e.s.size + Ex.wts e.kids ≤ 2000 := by
    obtain ⟨k, n, s, ks⟩ := e
    have hw2 : s.size + Ex.wts ks ≤ 2000 := hwt
    exact ⟨by show Ex.wts ks ≤ 2000; omega, hw2⟩
  have HC1 : Calls Tryd.prog 10 #[.agg #[.int .i64 e.kind, .int .i64 e.n, .string e.s, .slice (some ⟨g8, 0, none⟩) (e.kids.length + 1) c8]] V4 (fun r w' => r = .returned (.bool false) ∧ Below V4.heap.size V4 w') := by
    have hl : (e.kids ++ [Ex.mk 1 0 { data := #[] } []]).length = e.kids.length + 1 := by simp
    have h := exprOk_any (Ex.mk e.kind e.n e.s (e.kids ++ [Ex.mk 1 0 { data := #[] } []])) (some ⟨g8, 0, none⟩) c8 V4.heap.size V4 KA (by show (e.kids ++ [Ex.mk 1 0 { data := #[] } []]).length ≤ c8; omega) (Nat.le_refl _) hwa
    rw [HNA.out] at h
    rw [← hl]
    exact h
  have KX4 := HKX.out.keep (hX4.mono (show w1.heap.size ≤ X.heap.size by omega))
  have HC2 := Lib.hid (fun (W : World) (hW : Below V4.heap.size V4 W) => (show Calls Tryd.prog 10 #[.agg #[.int .i64 5, .int .i64 e.n, .string e.s, .slice Ae e.kids.length c]] W (fun r w' => r = .returned (.bool false) ∧ Below W.heap.size W w') by
    have h := exprOk_any (.mk 5 e.n e.s e.kids) Ae c w1.heap.size W (KX4.keep (hW.mono (by omega))) hc (by have := hW.size; omega) (by simp only [Ex.wt]; omega)
    rw [bent_kind] at h
    exact h))
  have HC3 := Lib.hid (fun (W : World) (hW : Below V4.heap.size V4 W) => (show Calls Tryd.prog 10 #[.agg #[.int .i64 e.kind, .int .i64 (-1), .string e.s, .slice Ae e.kids.length c]] W (fun r w' => r = .returned (.bool false) ∧ Below W.heap.size W w') by
    have h := exprOk_any (.mk e.kind (-1) e.s e.kids) Ae c w1.heap.size W (KX4.keep (hW.mono (by omega))) hc (by have := hW.size; omega) (by simp only [Ex.wt]; omega)
    rw [bent_n] at h
    exact h))
  have HC4 := Lib.hid (fun (W : World) (hW : Below V4.heap.size V4 W) => (show Calls Tryd.prog 10 #[.agg #[.int .i64 e.kind, .int .i64 e.n, .string { data := #[108, 101, 116] }, .slice Ae e.kids.length c]] W (fun r w' => r = .returned (.bool false) ∧ Below W.heap.size W w') by
    have h := exprOk_any (.mk e.kind e.n sLet e.kids) Ae c w1.heap.size W (KX4.keep (hW.mono (by omega))) hc (by have := hW.size; omega) (by simp only [Ex.wt]; have : sLet.size = 3 := rfl; omega)
    rw [HND.out] at h
    exact h))
  have HB4 := Lib.hid (HB2.out.trans ((BX.trans (hX4.mono hzX)).mono HB2.out.size))
  clear hz1 hV4 hV1 hR4 hXV1 hX4 hold hO4 hmap KA KX4 HO8 HBA HRV HXN HKX HDS HDK HOW HSRC HG7 HO7 HNA HND c0 c1 c2 c3 e3 BX
  refine HC1.mono ?_
  rintro r w5 ⟨rfl, BL⟩
  have y0 := (BL.cell (p := ⟨V.heap.size, 0, none⟩) (by show V.heap.size < _; omega)).trans (hbb.cell 0)
  have y1 := (BL.cell (p := ⟨V.heap.size, 1, none⟩) (by show V.heap.size < _; omega)).trans (hbb.cell 1)
  have y2 := (BL.cell (p := ⟨V.heap.size, 2, none⟩) (by show V.heap.size < _; omega)).trans (hbb.cell 2)
  have y3 := (BL.cell (p := ⟨V.heap.size, 3, none⟩) (by show V.heap.size < _; omega)).trans (hbb.cell 3)
  simp only [List.getElem?_toArray, List.getElem?_cons_zero, List.getElem?_cons_succ] at y0 y1 y2 y3
  go_wp2_with fail
  refine (HC2.out w5 BL).mono ?_
  rintro r w6 ⟨rfl, hb6⟩
  clear y0 y1 y2 y3
  replace BL := BL.trans (hb6.mono BL.size)
  have y0 := (BL.cell (p := ⟨V.heap.size + 1, 0, none⟩) (by show V.heap.size + 1 < _; omega)).trans (hbc.cell 0)
  have y1 := (BL.cell (p := ⟨V.heap.size + 1, 1, none⟩) (by show V.heap.size + 1 < _; omega)).trans (hbc.cell 1)
  have y2 := (BL.cell (p := ⟨V.heap.size + 1, 2, none⟩) (by show V.heap.size + 1 < _; omega)).trans (hbc.cell 2)
  have y3 := (BL.cell (p := ⟨V.heap.size + 1, 3, none⟩) (by show V.heap.size + 1 < _; omega)).trans (hbc.cell 3)
  simp only [List.getElem?_toArray, List.getElem?_cons_zero, List.getElem?_cons_succ] at y0 y1 y2 y3
  go_wp2_with fail
  refine (HC3.out w6 BL).mono ?_
  rintro r w7 ⟨rfl, hb7⟩
  clear y0 y1 y2 y3
  replace BL := BL.trans (hb7.mono BL.size)
  have y0 := (BL.cell (p := ⟨V.heap.size + 1 + 1, 0, none⟩) (by show V.heap.size + 1 + 1 < _; omega)).trans (hbd.cell 0)
  have y1 := (BL.cell (p := ⟨V.heap.size + 1 + 1, 1, none⟩) (by show V.heap.size + 1 + 1 < _; omega)).trans (hbd.cell 1)
  have y2 := (BL.cell (p := ⟨V.heap.size + 1 + 1, 2, none⟩) (by show V.heap.size + 1 + 1 < _; omega)).trans (hbd.cell 2)
  have y3 := (BL.cell (p := ⟨V.heap.size + 1 + 1, 3, none⟩) (by show V.heap.size + 1 + 1 < _; omega)).trans (hbd.cell 3)
  simp only [List.getElem?_toArray, List.getElem?_cons_zero, List.getElem?_cons_succ] at y0 y1 y2 y3
  go_wp2_with fail
  refine (HC4.out w7 BL).mono ?_
  rintro r w8 ⟨rfl, hb8⟩
  replace BL := BL.trans (hb8.mono BL.size)
  go_wp2_with fail
  go_ret
  exact ⟨rfl, HB4.out.trans (BL.mono HB4.out.size)⟩

set_option linter.unusedVariables false in
set_option maxRecDepth 100000 in
theorem lifted (os : Os) (started : os.Started) (H : Type) (enc : TypeId × Value → H) :
    ReturnsInHanded {} Tryd.checked os 6 .any (fun w args => (Rows.fnExprBentSpec.pre enc Tryd.prog Tryd.f6 [] false w args ∧ laidMetH Tryd.prog laidL w) ∧ sizedMet enc Tryd.prog Tryd.f6 (OpenSpec.ofChange Rows.fnExprBentSpec) false w args)
      (Rows.fnExprBentSpec.post enc Tryd.prog Tryd.f6 false true false false) := by
  refine returnsInHanded_of_change_and (C := Tryd.checked) (X := fun w _ => laidMetH Tryd.prog laidL w) (fun _ _ _ hh h => h.of_heap hh) own started (by kernel_rfl) Tryd.func6
    (ChangeSpec.witness_shaped (enc := enc) (C := Tryd.checked) (os := os) (X := fun w _ => laidMetH Tryd.prog laidL w) false (World.doorLaid Tryd.prog 62 os) #[.slice none 0 0] 8 rfl (World.shaped_of_RefB (by kernel_rfl) (by kernel_rfl)) (by kernel_rfl) (by kernel_rfl) (by kernel_rfl) (door_met os _)) ?_
  intro W base args ds gs before hval0 hW _ _ hL _
  have hval : ∀ (j : Nat) t v, Tryd.f6.params[j]? = some t → args[j]? = some v → Value.okWide Tryd.prog W .any base t v := hval0
  have hW' := hW
  obtain ⟨p, q, hA0, hV, rfl, hfz, hnd⟩ := hW
  have hA : DataW.TrodAll enc Tryd.prog W 0 (fun _ => true) true Tryd.f6.params.toList args.toList ds p := hA0
  rw [Tryd.params6] at hA hval
  obtain ⟨v0, vs0, d0, ds0, p0, q0, hargs, rfl, rfl, h0, r0⟩ := trodAll_cons hA
  obtain ⟨rfl, rfl, rfl⟩ := trodAll_nil r0
  obtain rfl : args = #[v0] := by cases args; simp_all
  obtain ⟨rfl, rfl⟩ := trodVars_none hV
  have k0 := h0
  have lt0 : ∀ x ∈ p0, x.block < W.heap.size := by obtain ⟨m, hm⟩ := k0; exact DataW.trod_lt m _ _ _ hm
  obtain ⟨a0, len0, cap0, e0⟩ := okWide_slice Tryd.underlying39 (hval 0 39 v0 rfl rfl)
  subst e0
  have w0 : InCode W a0 len0 cap0 := by
    obtain ⟨fuel, hf⟩ := h0
    rcases open_ints Tryd.underlying39 Tryd.underlying5 (by kernel_rfl) hf with ⟨hcs, _⟩ | ⟨x, l, c, zs, hcs, _, hl, hm, hz, _, hcell, hwz⟩
    · simp [Value.cells] at hcs
      obtain ⟨rfl, rfl, rfl⟩ := hcs
      exact inCode_nil W
    · simp [Value.cells] at hcs
      obtain ⟨rfl, rfl, rfl⟩ := hcs
      exact inCode_of hl hm (by simpa using hz) hcell hwz
  clear hA0 hval0
  refine (walk a0 len0 cap0 W w0 (of_laid hL)).mono fun e W' ⟨he, bel⟩ => ?_
  subst he
  exact ⟨_, rfl, _, _, _, [], _, [], hW', trodAll_mk1 (shut_bool Tryd.underlying4 _), (trodAll_cons_mk (Below.trod laidOut (by kernel_rfl) (of_decide_eq_true (by kernel_rfl)) k0 bel lt0) trodAll_mk0), rfl, bel.frame _, fun h => by cases h⟩

theorem over : Rows.fnExprBentRow.holds Tryd.pinned (OpenSpec.ofChange Rows.fnExprBentSpec) :=
  OpenClaim.holds_of_wide 6 Tryd.f6 rfl rfl rfl rfl rfl rfl rfl ⟨rfl, rfl, rfl, rfl, rfl⟩ rfl rfl rfl rfl rfl (by kernel_rfl) Tryd.func6 (by kernel_rfl)
    (of_decide_eq_true (by kernel_rfl)) (by unfold Func.isWrapper; first | (rw [if_pos (by decide +kernel)]; kernel_rfl) | (rw [if_neg (by decide +kernel)]; exact ⟨rfl, rfl⟩))
    (fun os started H enc _ => lifted os started H enc)
end Go.Proofs.YtaclndbilpaboaaDoor.fnExprBent
namespace Go.Proofs.YtaclndbilpaboaaDoor

/-- The given statement. -/
theorem fnExprBent_proved : Rows.FnExprBentCardSaid :=
  Claim7.holds_tied_plain_at .later [] [.data, .data, .data, .sentinel, .sentinel] true (true, "458effa130e5440ecc25a60a7a08ba0ec3bc6484c6fcde7230d9dc0308758b65") true
    fnExprBent.over (fun _ h => by cases h) (by kernel_rfl) (fun _ h => by cases h) fnExprBent_row_tie rfl ⟨rfl, rfl⟩ (by kernel_rfl) rfl
    (fun f fn hf hfn => by
      obtain rfl : f = 6 := Option.some.inj ((show Tryd.prog.funcNamed "loop.example/interlinear/laws.FnExprBent" = some 6 by kernel_rfl).symm.trans hf) |>.symm
      obtain rfl : fn = Tryd.f6 := (Option.some.inj (Tryd.func6.symm.trans hfn)).symm
      exact ⟨by kernel_rfl, fun j t ht => by
        rw [Tryd.params6] at ht
        have hm : t ∈ [39] := by simpa using Array.mem_of_getElem? ht
        have hall : ([39].all fun u => !Tryd.prog.wantsStandIn u) = true := by kernel_rfl
        exact (show Tryd.prog.wantsStandIn t = false by simpa using List.all_eq_true.1 hall t hm)⟩)
    (by kernel_rfl)
#print axioms fnExprBent_proved
end Go.Proofs.YtaclndbilpaboaaDoor
