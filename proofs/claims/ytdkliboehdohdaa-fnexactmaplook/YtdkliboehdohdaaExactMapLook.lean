/-
  'laws.FnExactMapLook' returns true at every list of Seg and every place: impl.MapLook and the model's MapLook answer the same, and nothing is written into the list.
  Conditions: none; every list of Seg and every place.
-/
import Derived.Test.YtdkliboehdohdaaMapLook
import Derived.Test.YtdkliboehdohdaaOpenSegs
import Derived.Test.YtdkliboehdohdaaRows
import Derived.WalkKit
import Derived.ProofKit
import Derived.OpenShut
import Derived.ShutString
import Derived.ChangeOld
import Derived.Below
import Derived.Lib.SmallJoins
import Derived.SliceStrings
namespace Go.Proofs.Ytdkliboehdohdaa.fnExactMapLook
open Go.ChangeShapes Go.WideShapes Go.ChangeAt Go.RowKit Go.Joins
open Go.ChangeMaps (open_string shut_string)


theorem lookV_parts (o : Option Sg) : ∃ (p q : Int) (r : Bool), lookV o = .tuple #[.agg #[.int .i64 p, .int .i64 q], .bool r] := by
  cases o with
  | none => exact ⟨0, 0, false, rfl⟩
  | some x => exact ⟨_, _, true, rfl⟩
theorem bel_alloc {w1 W : World} (h : Below w1.heap.size w1 W) (o : Obj) : Below w1.heap.size w1 (W.alloc o) := h.alloc h.size o
theorem bel_put {w1 W : World} {o : Obj} (h : Below w1.heap.size w1 W) (u v : Value) : Below w1.heap.size w1 (((W.alloc o).setCell ⟨W.heap.size, 0, none⟩ u).setCell ⟨W.heap.size, 1, none⟩ v) := ((h.alloc h.size o).setCell (p := ⟨W.heap.size, 0, none⟩) h.size _).setCell (p := ⟨W.heap.size, 1, none⟩) h.size _
theorem bel_set {w1 W : World} {g : Nat} (h : Below w1.heap.size w1 W) (hg : w1.heap.size ≤ g) (u v : Value) : Below w1.heap.size w1 ((W.setCell ⟨g, 0, none⟩ u).setCell ⟨g, 1, none⟩ v) := (h.setCell (p := ⟨g, 0, none⟩) hg _).setCell (p := ⟨g, 1, none⟩) hg _
theorem bel_then {w1 W W' : World} (h : Below w1.heap.size w1 W) (h2 : Below W.heap.size W W') : Below w1.heap.size w1 W' := h.trans (h2.mono h.size)
theorem hsl_alloc {W : World} {A : Option Addr} {xs : List Value} (h : Hid (SlIs W A xs)) (o : Obj) : Hid (SlIs (W.alloc o) A xs) := Lib.hid (h.out.below ((Below.refl _ W).alloc (Nat.le_refl _) o))
theorem hsl_then {W W' : World} {A : Option Addr} {xs : List Value} (h : Hid (SlIs W A xs)) (h2 : Below W.heap.size W W') : Hid (SlIs W' A xs) := Lib.hid (h.out.below h2)
theorem hold2 {w1 W : World} {g : Nat} {l cc : Int} (hg : g < w1.heap.size) (a0 : w1.cell? ⟨g, 0, none⟩ = some (.int .i64 l)) (a1 : w1.cell? ⟨g, 1, none⟩ = some (.int .i64 cc)) (h : Below w1.heap.size w1 W) :
    W.cell? ⟨g, 0, none⟩ = some (.int .i64 l) ∧ W.cell? ⟨g, 1, none⟩ = some (.int .i64 cc) ∧ Below w1.heap.size w1 W :=
  ⟨(h.cell (p := ⟨g, 0, none⟩) hg).trans a0, (h.cell (p := ⟨g, 1, none⟩) hg).trans a1, h⟩
theorem newblk {W w' : World} {x y : Value} {t : TypeId} (h : Below (W.alloc (.cells #[x, y] t)).heap.size (W.alloc (.cells #[x, y] t)) w') :
    Hid (BlkG w' W.heap.size #[x, y] t) ∧ w'.cell? ⟨W.heap.size, 0, none⟩ = some x ∧ w'.cell? ⟨W.heap.size, 1, none⟩ = some y ∧ w'.frozen? ⟨W.heap.size, 0, none⟩ = false ∧ w'.frozen? ⟨W.heap.size, 1, none⟩ = false := by
  have h1 := (blkG_new W #[x, y] t).stay (h.block _ (by simp))
  exact ⟨Lib.hid h1, h1.cell 0, h1.cell 1, h1.frozen 0, h1.frozen 1⟩
theorem newblkd {W w' : World} {x y : Value} {t : TypeId} (h : Below (W.alloc (.cells #[x, y] t)).drew.heap.size (W.alloc (.cells #[x, y] t)).drew w') :
    Hid (BlkG w' W.heap.size #[x, y] t) ∧ w'.cell? ⟨W.heap.size, 0, none⟩ = some x ∧ w'.cell? ⟨W.heap.size, 1, none⟩ = some y ∧ w'.frozen? ⟨W.heap.size, 0, none⟩ = false ∧ w'.frozen? ⟨W.heap.size, 1, none⟩ = false := by
  have h1 := (blkG_new W #[x, y] t).stay (h.block _ (by simp))
  exact ⟨Lib.hid h1, h1.cell 0, h1.cell 1, h1.frozen 0, h1.frozen 1⟩
theorem blkthen {W w' : World} {g : Nat} {x y : Value} {t : TypeId} (h0 : Hid (BlkG W g #[x, y] t)) (h : Below W.heap.size W w') :
    Hid (BlkG w' g #[x, y] t) ∧ w'.cell? ⟨g, 0, none⟩ = some x ∧ w'.cell? ⟨g, 1, none⟩ = some y ∧ w'.frozen? ⟨g, 0, none⟩ = false ∧ w'.frozen? ⟨g, 1, none⟩ = false := by
  have h1 := h0.out.stay (h.block _ h0.out.lt)
  exact ⟨Lib.hid h1, h1.cell 0, h1.cell 1, h1.frozen 0, h1.frozen 1⟩
set_option maxRecDepth 100000 in
set_option maxHeartbeats 2000000 in
theorem walk (A : Option Addr) (n c : Nat) (xs : List Sg) (l cc : Int) (w : World) (hx : IsSegs w A n xs ∧ n ≤ c) (_ : (Lit.int .i64 l).wf = true ∧ (Lit.int .i64 cc).wf = true) :
    Calls Try.prog 4 #[.slice A n c, .agg #[.int .i64 l, .int .i64 cc]] w fun e w' => e = .returned (.bool true) ∧ Below w.heap.size w w' := by
  obtain ⟨hx, _⟩ := hx
  obtain ⟨W0, hW0⟩ : ∃ W0, W0 = w.alloc (.cells #[.int .i64 l, .int .i64 cc] 30) := ⟨_, rfl⟩
  have hb0 : Below w.heap.size w W0 := by rw [hW0]; exact (Below.refl _ w).alloc (Nat.le_refl _) _
  have BP : BlkG W0 w.heap.size #[.int .i64 l, .int .i64 cc] 30 := by rw [hW0]; exact blkG_new w _ _
  have HSX := Lib.hid (szSegS_any A c n 1048576 W0 hx.2.1 (by omega) (by omega))
  obtain ⟨rfl, hm, hA⟩ := hx
  have HA := Lib.hid (hA.below hb0)
  have HBP := Lib.hid BP
  clear hA hm BP
  go_enter Try.func4, Try.ntmps4
  go_wp2_with fail
  rw [← hW0]
  clear hW0
  refine HSX.out.mono ?_
  rintro e w1 ⟨r, rfl, hr, hrl, hb1'⟩
  have hb1 := hb0.trans (hb1'.mono hb0.size)
  by_cases hneg : r < 0
  · have q0 : decide (r < 0) = true := by simpa using hneg
    go_wp2_with fail
    go_ret
    exact ⟨rfl, hb1⟩
  · have hlen : xs.length ≤ 1048576 := by have := hr (by omega); omega
    have q0 : decide (r < 0) = false := by simpa using hneg
    have HA1 := Lib.hid (HA.out.below hb1')
    have HP1 := Lib.hid (HBP.out.stay (hb1'.block _ HBP.out.lt))
    have a0 := HP1.out.cell 0
    have a1 := HP1.out.cell 1
    simp only [List.getElem?_toArray, List.getElem?_cons_zero, List.getElem?_cons_succ] at a0 a1
    have hg0 := HP1.out.lt
    have HTO := Lib.hid (fun W h => toSegS_any A c xs W (by omega) (HA1.out.below h))
    have HSP := Lib.hid (fun A' c' W (h : Hid (SlIs W A' (rowG xs))) => specMapLook_any A' c' xs l cc W (by omega) h.out)
    have HIM := Lib.hid (fun A' c' W (h : Hid (SlIs W A' (rowG xs))) => mapLook_any A' c' xs l cc W (by omega) h.out)
    have HEQ := Lib.hid (fun A' B' c' d' W h1 h2 => eqSegS_same A' B' c' d' xs W (by omega) h1 h2)
    obtain ⟨p, q, rr, hlv⟩ := lookV_parts (lookO xs l cc)
    rw [hlv] at HSP HIM
    have HPS := Lib.hid (toPos_any l cc)
    have HEP := Lib.hid (eqPos_same p q)
    have q2 : (rr != rr) = false := by simp
    clear hr HSX hlv HA HBP hlen
    go_wp2_with fail
    go_region_held3 (fun w' => w'.cell? ⟨w.heap.size, 0, none⟩ = some (.int .i64 l) ∧ w'.cell? ⟨w.heap.size, 1, none⟩ = some (.int .i64 cc) ∧ Below w1.heap.size w1 w')
      (exact hold2 hg0 a0 a1 (by (with_reducible (first | assumption | exact (Below.refl _ w1).drew | exact (bel_alloc (Below.refl _ w1) _).drew | exact bel_alloc (by assumption) _ | exact bel_alloc (Below.refl _ w1).drew _ | exact bel_put (by assumption) _ _ | exact bel_set (by assumption) (Nat.le_refl _) _ _ | exact bel_set (by assumption) (Below.size (by assumption)) _ _))))
      (first | (go_at_call 9; refine (HTO.out _ (by (with_reducible (first | assumption | exact (Below.refl _ w1).drew | exact (bel_alloc (Below.refl _ w1) _).drew | exact bel_alloc (by assumption) _ | exact bel_alloc (Below.refl _ w1).drew _ | exact bel_put (by assumption) _ _ | exact bel_set (by assumption) (Nat.le_refl _) _ _ | exact bel_set (by assumption) (Below.size (by assumption)) _ _)))).mono ?_; rintro e w2 ⟨v, rfl, hv, hb2'⟩; have hb2 : Below w1.heap.size w1 w2 := bel_then (by (with_reducible (first | assumption | exact (Below.refl _ w1).drew | exact (bel_alloc (Below.refl _ w1) _).drew | exact bel_alloc (by assumption) _ | exact bel_alloc (Below.refl _ w1).drew _ | exact bel_put (by assumption) _ _ | exact bel_set (by assumption) (Nat.le_refl _) _ _ | exact bel_set (by assumption) (Below.size (by assumption)) _ _))) hb2'; (first | (with_reducible have HBx := newblkd hb2'; obtain ⟨HB, c0, c1, f0, f1⟩ := HBx) | (with_reducible have HBx := newblk hb2'; obtain ⟨HB, c0, c1, f0, f1⟩ := HBx) | (with_reducible have HBx := blkthen HB hb2'; clear HB; obtain ⟨HB, c0, c1, f0, f1⟩ := HBx) | skip); obtain ⟨A1, c1, rfl, _⟩ := own_sliceG hv; have H1 := Lib.hid (SlIs.ownG hv); clear hv) | (go_at_call 13; refine (HPS.out _).mono ?_; rintro e w3 ⟨rfl, hb3'⟩; have hb3 : Below w1.heap.size w1 w3 := bel_then (by (with_reducible (first | assumption | exact (Below.refl _ w1).drew | exact (bel_alloc (Below.refl _ w1) _).drew | exact bel_alloc (by assumption) _ | exact bel_alloc (Below.refl _ w1).drew _ | exact bel_put (by assumption) _ _ | exact bel_set (by assumption) (Nat.le_refl _) _ _ | exact bel_set (by assumption) (Below.size (by assumption)) _ _))) hb3'; have H2 := hsl_then (by (with_reducible (first | assumption | exact hsl_alloc (by assumption) _))) hb3'; (first | (with_reducible have HBx := newblkd hb3'; obtain ⟨HB, c0, c1, f0, f1⟩ := HBx) | (with_reducible have HBx := newblk hb3'; obtain ⟨HB, c0, c1, f0, f1⟩ := HBx) | (with_reducible have HBx := blkthen HB hb3'; clear HB; obtain ⟨HB, c0, c1, f0, f1⟩ := HBx) | skip)) | (go_at_call 12; refine (HSP.out _ _ _ (by (with_reducible (first | assumption | exact hsl_alloc (by assumption) _)))).mono ?_; rintro e w4 ⟨rfl, hb4'⟩; have hb4 : Below w1.heap.size w1 w4 := bel_then (by (with_reducible (first | assumption | exact (Below.refl _ w1).drew | exact (bel_alloc (Below.refl _ w1) _).drew | exact bel_alloc (by assumption) _ | exact bel_alloc (Below.refl _ w1).drew _ | exact bel_put (by assumption) _ _ | exact bel_set (by assumption) (Nat.le_refl _) _ _ | exact bel_set (by assumption) (Below.size (by assumption)) _ _))) hb4'; (first | (with_reducible have HBx := newblkd hb4'; obtain ⟨HB, c0, c1, f0, f1⟩ := HBx) | (with_reducible have HBx := newblk hb4'; obtain ⟨HB, c0, c1, f0, f1⟩ := HBx) | (with_reducible have HBx := blkthen HB hb4'; clear HB; obtain ⟨HB, c0, c1, f0, f1⟩ := HBx) | skip)))
    · obtain ⟨V, hV⟩ : ∃ V, V = w4.alloc (.cells #[.int .i64 p, .int .i64 q] 31) := ⟨_, rfl⟩
      have HV := Lib.hid (show BlkG V w4.heap.size #[.int .i64 p, .int .i64 q] 31 by rw [hV]; exact blkG_new w4 _ _)
      have hbv : Below w1.heap.size w1 V := by rw [hV]; exact bel_alloc hb4 _
      rw [← hV]
      clear hV
      go_wp2_with fail
      refine (HTO.out _ hbv).mono ?_
      rintro e w5 ⟨v, rfl, hv, hb5'⟩
      have hb5 := bel_then hbv hb5'
      obtain ⟨A2, c2, rfl, _⟩ := own_sliceG hv
      have H3 := Lib.hid (SlIs.ownG hv)
      have HV5 := Lib.hid (HV.out.stay (hb5'.block _ HV.out.lt))
      have b0 := (hb5.cell (p := ⟨w.heap.size, 0, none⟩) hg0).trans a0
      have b1 := (hb5.cell (p := ⟨w.heap.size, 1, none⟩) hg0).trans a1
      clear hv
      go_wp2_with fail
      refine (HPS.out _).mono ?_
      rintro e w6 ⟨rfl, hb6'⟩
      have hb6 := bel_then hb5 hb6'
      have H4 := hsl_then H3 hb6'
      have HV6 := Lib.hid (HV5.out.stay (hb6'.block _ HV5.out.lt))
      go_wp2_with fail
      refine (HIM.out _ _ _ H4).mono ?_
      rintro e w7 ⟨rfl, hb7'⟩
      have hb7 := bel_then hb6 hb7'
      have H5 := hsl_then H4 hb7'
      have HV7 := Lib.hid (HV6.out.stay (hb7'.block _ HV6.out.lt))
      obtain ⟨W7, hW7⟩ : ∃ W7, W7 = w7.alloc (.cells #[.int .i64 p, .int .i64 q] 31) := ⟨_, rfl⟩
      have hb7W : Below w7.heap.size w7 W7 := by rw [hW7]; exact (Below.refl _ w7).alloc (Nat.le_refl _) _
      have HN := Lib.hid (show BlkG W7 w7.heap.size #[.int .i64 p, .int .i64 q] 31 by rw [hW7]; exact blkG_new w7 _ _)
      have HV8 := Lib.hid (HV7.out.stay (hb7W.block _ HV7.out.lt))
      have hbW := bel_then hb7 hb7W
      have H6 := hsl_then H5 hb7W
      have e0 := HN.out.cell 0
      have e1 := HN.out.cell 1
      have g0 := HV8.out.cell 0
      have g1 := HV8.out.cell 1
      simp only [List.getElem?_toArray, List.getElem?_cons_zero, List.getElem?_cons_succ] at e0 e1 g0 g1
      rw [hW7] at e0 e1 g0 g1
      go_wp2_with fail
      rw [← hW7]
      clear hW7
      refine (HEP.out _).mono ?_
      rintro e w8 ⟨rfl, hb8'⟩
      have hb8 := bel_then hbW hb8'
      have H7 := hsl_then H6 hb8'
      clear e0 e1 g0 g1
      go_wp2_with fail
      refine (HTO.out _ hb8).mono ?_
      rintro e w9 ⟨v, rfl, hv, hb9'⟩
      have hb9 := bel_then hb8 hb9'
      have H8 := hsl_then H7 hb9'
      obtain ⟨A3, c3, rfl, _⟩ := own_sliceG hv
      have H9 := Lib.hid (SlIs.ownG hv)
      clear hv
      go_wp2_with fail
      refine (HEQ.out _ _ _ _ _ H8.out H9.out).mono ?_
      rintro e w10 ⟨rfl, hb10'⟩
      go_wp2_with fail
      go_ret
      exact ⟨rfl, hb1.trans ((bel_then hb9 hb10').mono hb1.size)⟩
    · obtain ⟨V, hV⟩ : ∃ V, V = (w4.setCell ⟨w3.heap.size, 0, none⟩ (.int .i64 p)).setCell ⟨w3.heap.size, 1, none⟩ (.int .i64 q) := ⟨_, rfl⟩
      have HV := Lib.hid (show BlkG V w3.heap.size #[.int .i64 p, .int .i64 q] 31 by rw [hV]; exact (HB.out.set 0 _).set 1 _)
      have hbv : Below w1.heap.size w1 V := by rw [hV]; exact bel_set hb4 hb3.size _ _
      rw [← hV]
      clear hV
      go_wp2_with fail
      refine (HTO.out _ hbv).mono ?_
      rintro e w5 ⟨v, rfl, hv, hb5'⟩
      have hb5 := bel_then hbv hb5'
      obtain ⟨A2, c2, rfl, _⟩ := own_sliceG hv
      have H3 := Lib.hid (SlIs.ownG hv)
      have HV5 := Lib.hid (HV.out.stay (hb5'.block _ HV.out.lt))
      have b0 := (hb5.cell (p := ⟨w.heap.size, 0, none⟩) hg0).trans a0
      have b1 := (hb5.cell (p := ⟨w.heap.size, 1, none⟩) hg0).trans a1
      clear hv
      go_wp2_with fail
      refine (HPS.out _).mono ?_
      rintro e w6 ⟨rfl, hb6'⟩
      have hb6 := bel_then hb5 hb6'
      have H4 := hsl_then H3 hb6'
      have HV6 := Lib.hid (HV5.out.stay (hb6'.block _ HV5.out.lt))
      go_wp2_with fail
      refine (HIM.out _ _ _ H4).mono ?_
      rintro e w7 ⟨rfl, hb7'⟩
      have hb7 := bel_then hb6 hb7'
      have H5 := hsl_then H4 hb7'
      have HV7 := Lib.hid (HV6.out.stay (hb7'.block _ HV6.out.lt))
      obtain ⟨W7, hW7⟩ : ∃ W7, W7 = w7.alloc (.cells #[.int .i64 p, .int .i64 q] 31) := ⟨_, rfl⟩
      have hb7W : Below w7.heap.size w7 W7 := by rw [hW7]; exact (Below.refl _ w7).alloc (Nat.le_refl _) _
      have HN := Lib.hid (show BlkG W7 w7.heap.size #[.int .i64 p, .int .i64 q] 31 by rw [hW7]; exact blkG_new w7 _ _)
      have HV8 := Lib.hid (HV7.out.stay (hb7W.block _ HV7.out.lt))
      have hbW := bel_then hb7 hb7W
      have H6 := hsl_then H5 hb7W
      have e0 := HN.out.cell 0
      have e1 := HN.out.cell 1
      have g0 := HV8.out.cell 0
      have g1 := HV8.out.cell 1
      simp only [List.getElem?_toArray, List.getElem?_cons_zero, List.getElem?_cons_succ] at e0 e1 g0 g1
      rw [hW7] at e0 e1 g0 g1
      go_wp2_with fail
      rw [← hW7]
      clear hW7
      refine (HEP.out _).mono ?_
      rintro e w8 ⟨rfl, hb8'⟩
      have hb8 := bel_then hbW hb8'
      have H7 := hsl_then H6 hb8'
      clear e0 e1 g0 g1
      go_wp2_with fail
      refine (HTO.out _ hb8).mono ?_
      rintro e w9 ⟨v, rfl, hv, hb9'⟩
      have hb9 := bel_then hb8 hb9'
      have H8 := hsl_then H7 hb9'
      obtain ⟨A3, c3, rfl, _⟩ := own_sliceG hv
      have H9 := Lib.hid (SlIs.ownG hv)
      clear hv
      go_wp2_with fail
      refine (HEQ.out _ _ _ _ _ H8.out H9.out).mono ?_
      rintro e w10 ⟨rfl, hb10'⟩
      go_wp2_with fail
      go_ret
      exact ⟨rfl, hb1.trans ((bel_then hb9 hb10').mono hb1.size)⟩
    · obtain ⟨V, hV⟩ : ∃ V, V = (w4.setCell ⟨w2.heap.size, 0, none⟩ (.int .i64 p)).setCell ⟨w2.heap.size, 1, none⟩ (.int .i64 q) := ⟨_, rfl⟩
      have HV := Lib.hid (show BlkG V w2.heap.size #[.int .i64 p, .int .i64 q] 31 by rw [hV]; exact (HB.out.set 0 _).set 1 _)
      have hbv : Below w1.heap.size w1 V := by rw [hV]; exact bel_set hb4 hb2.size _ _
      rw [← hV]
      clear hV
      go_wp2_with fail
      refine (HTO.out _ hbv).mono ?_
      rintro e w5 ⟨v, rfl, hv, hb5'⟩
      have hb5 := bel_then hbv hb5'
      obtain ⟨A2, c2, rfl, _⟩ := own_sliceG hv
      have H3 := Lib.hid (SlIs.ownG hv)
      have HV5 := Lib.hid (HV.out.stay (hb5'.block _ HV.out.lt))
      have b0 := (hb5.cell (p := ⟨w.heap.size, 0, none⟩) hg0).trans a0
      have b1 := (hb5.cell (p := ⟨w.heap.size, 1, none⟩) hg0).trans a1
      clear hv
      go_wp2_with fail
      refine (HPS.out _).mono ?_
      rintro e w6 ⟨rfl, hb6'⟩
      have hb6 := bel_then hb5 hb6'
      have H4 := hsl_then H3 hb6'
      have HV6 := Lib.hid (HV5.out.stay (hb6'.block _ HV5.out.lt))
      go_wp2_with fail
      refine (HIM.out _ _ _ H4).mono ?_
      rintro e w7 ⟨rfl, hb7'⟩
      have hb7 := bel_then hb6 hb7'
      have H5 := hsl_then H4 hb7'
      have HV7 := Lib.hid (HV6.out.stay (hb7'.block _ HV6.out.lt))
      obtain ⟨W7, hW7⟩ : ∃ W7, W7 = w7.alloc (.cells #[.int .i64 p, .int .i64 q] 31) := ⟨_, rfl⟩
      have hb7W : Below w7.heap.size w7 W7 := by rw [hW7]; exact (Below.refl _ w7).alloc (Nat.le_refl _) _
      have HN := Lib.hid (show BlkG W7 w7.heap.size #[.int .i64 p, .int .i64 q] 31 by rw [hW7]; exact blkG_new w7 _ _)
      have HV8 := Lib.hid (HV7.out.stay (hb7W.block _ HV7.out.lt))
      have hbW := bel_then hb7 hb7W
      have H6 := hsl_then H5 hb7W
      have e0 := HN.out.cell 0
      have e1 := HN.out.cell 1
      have g0 := HV8.out.cell 0
      have g1 := HV8.out.cell 1
      simp only [List.getElem?_toArray, List.getElem?_cons_zero, List.getElem?_cons_succ] at e0 e1 g0 g1
      rw [hW7] at e0 e1 g0 g1
      go_wp2_with fail
      rw [← hW7]
      clear hW7
      refine (HEP.out _).mono ?_
      rintro e w8 ⟨rfl, hb8'⟩
      have hb8 := bel_then hbW hb8'
      have H7 := hsl_then H6 hb8'
      clear e0 e1 g0 g1
      go_wp2_with fail
      refine (HTO.out _ hb8).mono ?_
      rintro e w9 ⟨v, rfl, hv, hb9'⟩
      have hb9 := bel_then hb8 hb9'
      have H8 := hsl_then H7 hb9'
      obtain ⟨A3, c3, rfl, _⟩ := own_sliceG hv
      have H9 := Lib.hid (SlIs.ownG hv)
      clear hv
      go_wp2_with fail
      refine (HEQ.out _ _ _ _ _ H8.out H9.out).mono ?_
      rintro e w10 ⟨rfl, hb10'⟩
      go_wp2_with fail
      go_ret
      exact ⟨rfl, hb1.trans ((bel_then hb9 hb10').mono hb1.size)⟩
    · obtain ⟨V, hV⟩ : ∃ V, V = (w4.setCell ⟨w1.heap.size, 0, none⟩ (.int .i64 p)).setCell ⟨w1.heap.size, 1, none⟩ (.int .i64 q) := ⟨_, rfl⟩
      have HV := Lib.hid (show BlkG V w1.heap.size #[.int .i64 p, .int .i64 q] 31 by rw [hV]; exact (HB.out.set 0 _).set 1 _)
      have hbv : Below w1.heap.size w1 V := by rw [hV]; exact bel_set hb4 (Nat.le_refl _) _ _
      rw [← hV]
      clear hV
      go_wp2_with fail
      refine (HTO.out _ hbv).mono ?_
      rintro e w5 ⟨v, rfl, hv, hb5'⟩
      have hb5 := bel_then hbv hb5'
      obtain ⟨A2, c2, rfl, _⟩ := own_sliceG hv
      have H3 := Lib.hid (SlIs.ownG hv)
      have HV5 := Lib.hid (HV.out.stay (hb5'.block _ HV.out.lt))
      have b0 := (hb5.cell (p := ⟨w.heap.size, 0, none⟩) hg0).trans a0
      have b1 := (hb5.cell (p := ⟨w.heap.size, 1, none⟩) hg0).trans a1
      clear hv
      go_wp2_with fail
      refine (HPS.out _).mono ?_
      rintro e w6 ⟨rfl, hb6'⟩
      have hb6 := bel_then hb5 hb6'
      have H4 := hsl_then H3 hb6'
      have HV6 := Lib.hid (HV5.out.stay (hb6'.block _ HV5.out.lt))
      go_wp2_with fail
      refine (HIM.out _ _ _ H4).mono ?_
      rintro e w7 ⟨rfl, hb7'⟩
      have hb7 := bel_then hb6 hb7'
      have H5 := hsl_then H4 hb7'
      have HV7 := Lib.hid (HV6.out.stay (hb7'.block _ HV6.out.lt))
      obtain ⟨W7, hW7⟩ : ∃ W7, W7 = w7.alloc (.cells #[.int .i64 p, .int .i64 q] 31) := ⟨_, rfl⟩
      have hb7W : Below w7.heap.size w7 W7 := by rw [hW7]; exact (Below.refl _ w7).alloc (Nat.le_refl _) _
      have HN := Lib.hid (show BlkG W7 w7.heap.size #[.int .i64 p, .int .i64 q] 31 by rw [hW7]; exact blkG_new w7 _ _)
      have HV8 := Lib.hid (HV7.out.stay (hb7W.block _ HV7.out.lt))
      have hbW := bel_then hb7 hb7W
      have H6 := hsl_then H5 hb7W
      have e0 := HN.out.cell 0
      have e1 := HN.out.cell 1
      have g0 := HV8.out.cell 0
      have g1 := HV8.out.cell 1
      simp only [List.getElem?_toArray, List.getElem?_cons_zero, List.getElem?_cons_succ] at e0 e1 g0 g1
      rw [hW7] at e0 e1 g0 g1
      go_wp2_with fail
      rw [← hW7]
      clear hW7
      refine (HEP.out _).mono ?_
      rintro e w8 ⟨rfl, hb8'⟩
      have hb8 := bel_then hbW hb8'
      have H7 := hsl_then H6 hb8'
      clear e0 e1 g0 g1
      go_wp2_with fail
      refine (HTO.out _ hb8).mono ?_
      rintro e w9 ⟨v, rfl, hv, hb9'⟩
      have hb9 := bel_then hb8 hb9'
      have H8 := hsl_then H7 hb9'
      obtain ⟨A3, c3, rfl, _⟩ := own_sliceG hv
      have H9 := Lib.hid (SlIs.ownG hv)
      clear hv
      go_wp2_with fail
      refine (HEQ.out _ _ _ _ _ H8.out H9.out).mono ?_
      rintro e w10 ⟨rfl, hb10'⟩
      go_wp2_with fail
      go_ret
      exact ⟨rfl, hb1.trans ((bel_then hb9 hb10').mono hb1.size)⟩

theorem own : ownKnob Try.prog.godebug = none := by kernel_rfl
theorem laidOut : laidOutB Try.prog = true := by kernel_rfl
theorem cellsPos : Try.prog.cellsOf 30 = 2 := by kernel_rfl

set_option linter.unusedVariables false in
set_option maxRecDepth 100000 in
theorem lifted (os : Os) (started : os.Started) (H : Type) (enc : TypeId × Value → H) :
    ReturnsInHanded {} Try.checked os 4 .any (Rows.fnExactMapLookSpec.pre6 enc Try.prog Try.f4 Rows.fnExactMapLookRow.domain false) (Rows.fnExactMapLookSpec.post enc Try.prog Try.f4 false true false false) := by
  refine returnsInHanded_of_change (C := Try.checked) own started (by kernel_rfl) Try.func4
    (ChangeSpec.witness6 (enc := enc) (C := Try.checked) false ⟨#[], #[.slice none 0 0, .agg #[.int .i64 0, .int .i64 0]], []⟩ 8 (by kernel_rfl) (by kernel_rfl) (by kernel_rfl) (by kernel_rfl)) ?_
  intro W base args ds gs before hval0 hW hcnd _
  have hval : ∀ (j : Nat) t v, Try.f4.params[j]? = some t → args[j]? = some v → Value.okWide Try.prog W .any base t v := hval0
  have hW' := hW
  obtain ⟨p, q, hA0, hV, rfl, hfz, hnd⟩ := hW
  have hA : DataW.TrodAll enc Try.prog W 0 (fun _ => true) true Try.f4.params.toList args.toList ds p := hA0
  rw [Try.params4] at hA hval
  obtain ⟨v0, vs0, d0, ds0, p0, q0, hargs, rfl, rfl, h0, r0⟩ := trodAll_cons hA
  obtain ⟨v1, vs1, d1, ds1, p1, q1, rfl, rfl, rfl, h1, r1⟩ := trodAll_cons r0
  obtain ⟨rfl, rfl, rfl⟩ := trodAll_nil r1
  obtain rfl : args = #[v0, v1] := by cases args; simp_all
  obtain ⟨rfl, rfl⟩ := trodVars_none hV
  have k0 := h0
  have lt0 : ∀ x ∈ p0, x.block < W.heap.size := by obtain ⟨m, hm⟩ := k0; exact DataW.trod_lt m _ _ _ hm
  have k1 := h1
  have lt1 : ∀ x ∈ p1, x.block < W.heap.size := by obtain ⟨m, hm⟩ := k1; exact DataW.trod_lt m _ _ _ hm
  obtain ⟨a0, len0, cap0, e0⟩ := okWide_slice Try.underlying22 (hval 0 22 v0 rfl rfl)
  subst e0
  obtain ⟨z0, w0⟩ : ∃ xs, IsSegs W a0 len0 xs ∧ len0 ≤ cap0 := by
    obtain ⟨fuel, hf⟩ := h0
    exact open_segs hf rfl
  obtain ⟨a1, b1, e1, w1⟩ : ∃ a b : Int, v1 = .agg #[.int .i64 a, .int .i64 b] ∧ (Lit.int .i64 a).wf = true ∧ (Lit.int .i64 b).wf = true := by
    obtain ⟨c0, c1, y0, y1, m, rfl, _, _, hy0, hy1⟩ := open_agg2 Try.underlying30 (by kernel_rfl) cellsPos (hval 1 30 v1 rfl rfl) h1
    obtain ⟨a, e0, _, wa⟩ := DataW.trod_int Try.underlying3 hy0
    obtain ⟨b, e1, _, wb⟩ := DataW.trod_int Try.underlying3 hy1
    simp at e0 e1
    subst e0 e1
    exact ⟨a, b, rfl, wa, wb⟩
  subst e1
  clear hA0 hval0
  refine (walk a0 len0 cap0 z0 a1 b1 W w0 w1).mono fun e W' ⟨he, bel⟩ => ?_
  subst he
  exact ⟨_, rfl, _, _, _, [], _, [], hW', trodAll_mk1 (shut_bool Try.underlying4 _), (trodAll_cons_mk (Below.trod laidOut (by kernel_rfl) (of_decide_eq_true (by kernel_rfl)) k0 bel lt0) (trodAll_cons_mk (Below.trod laidOut (by kernel_rfl) (of_decide_eq_true (by kernel_rfl)) k1 bel lt1) trodAll_mk0)), rfl, bel.frame _, fun h => by cases h⟩

theorem fact_inPlace : (Rows.fnExactMapLookRow.inPlace == Try.pinned.checked.prog.inPlace 4) = true := by kernel_rfl
theorem fact_unfollowed : (Rows.fnExactMapLookRow.unfollowed == Try.pinned.checked.prog.unfollowed 4) = true := by kernel_rfl
theorem fact_recurses : (Rows.fnExactMapLookRow.recurses == Try.pinned.checked.prog.recurses 4) = true := by kernel_rfl
theorem fact_named : (Rows.fnExactMapLookRow.named == Try.pinned.checked.prog.varsNamed 4) = true := by kernel_rfl
theorem over : Rows.fnExactMapLookRow.holds Try.pinned (OpenSpec.ofChange Rows.fnExactMapLookSpec) :=
  OpenClaim.holds_of_wide 4 Try.f4 rfl rfl rfl rfl rfl rfl rfl ⟨rfl, rfl, rfl, rfl, rfl⟩ rfl rfl rfl rfl rfl (by kernel_rfl) Try.func4 (by unfold joinedFacts; rw [fact_inPlace, fact_unfollowed, fact_recurses, fact_named]; kernel_rfl)
    (of_decide_eq_true (by kernel_rfl)) (by unfold Func.isWrapper; first | (rw [if_pos (by decide +kernel)]; kernel_rfl) | (rw [if_neg (by decide +kernel)]; exact ⟨rfl, rfl⟩))
    (fun os started H enc _ => lifted os started H enc)
end Go.Proofs.Ytdkliboehdohdaa.fnExactMapLook
namespace Go.Proofs.Ytdkliboehdohdaa

/-- The given statement. -/
theorem fnExactMapLook_proved : Rows.FnExactMapLookSaid := fnExactMapLook.over
#print axioms fnExactMapLook_proved
end Go.Proofs.Ytdkliboehdohdaa
