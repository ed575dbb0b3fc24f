/-
  'laws.FnExprOf' returns true at every code.
  Conditions: the library's variables hold what their initialisers lay (tied to the program's text); every slice of bytes.
-/
import Derived.Test.YtaclndbilpaboaaGreatDoorMethOf
import Derived.Test.YtaclndbilpaboaaGreatDoorSpecOf2
import Derived.Test.YtaclndbilpaboaaGreatDoorDrawOf
import Derived.Test.YtaclndbilpaboaaGreatDoorExLaws
import Derived.Test.YtaclndbilpaboaaGreatDoorLaid
import Derived.Test.YtaclndbilpaboaaGreatDoorCards
import Derived.Test.YtaclndbilpaboaaGreatDoorTie
import Derived.Test.YtaclndbilpaboaaGreatDoorFacts
import Derived.Test.YtaclndbilpaboaaGreatDoorRows
import Derived.WalkKit
import Derived.BigGuardPart
import Derived.ProofKit
import Derived.OpenShut
import Derived.ShutString
import Derived.ChangeOld
import Derived.Below
import Derived.Lib.SmallJoins
import Derived.SliceStrings
namespace Go.Proofs.YtaclndbilpaboaaGreatDoor.fnExprOf
open Go.ChangeShapes Go.WideShapes Go.ChangeAt Go.RowKit Go.Joins
open Go.ChangeMaps (open_string shut_string)


set_option linter.unusedSimpArgs false in
set_option maxRecDepth 100000 in
set_option maxHeartbeats 16000000 in
theorem walk (A : Option Addr) (len cap : Nat) (w : World) (h1 : InCode w A len cap) (_ : LaidW w) :
    Calls Tryz.prog 6 #[.slice A len cap] w fun r w' => r = .returned (.bool true) ∧ Below w.heap.size w w' := by
  by_cases hl1 : 1048576 < len
  · have q1 : decide ((1048576 : Int) < (len : Int)) = true := by simp; omega
    clear h1
    go_enter Tryz.func6, Tryz.ntmps6
    go_wp2_with fail
    go_ret
    exact ⟨rfl, Below.refl _ _⟩
  have q1 : decide ((1048576 : Int) < (len : Int)) = false := by simp; omega
  have H1 := Lib.hid h1
  clear h1
  go_enter Tryz.func6, Tryz.ntmps6
  go_wp2_with fail
  refine (drawExprOf_any A len cap w H1.out).mono ?_
  rintro r w1 ⟨e, Ae, c, An, Av, cn, cv, ss, zs, rfl, hc, hO, _, hwt, hSN, hSV, hls, hlz, _, hb1⟩
  obtain ⟨W2, hW2⟩ : ∃ W2, W2 = w1.alloc (.cells #[.int .i64 e.kind, .int .i64 e.n, .string e.s, .slice Ae e.kids.length c] 31) := ⟨_, rfl⟩
  have hb2 : Below w1.heap.size w1 W2 := by rw [hW2]; exact (Below.refl _ w1).alloc (Nat.le_refl _) _
  have hs2 : w1.heap.size < W2.heap.size := by rw [hW2]; simp
  have K2 : KidsAt W2 w1.heap.size Ae e.kids := (own_kids e _ _ Ae w1.heap.size hO (Nat.le_refl _)).keep hb2
  have a0 : W2.cell? ⟨w1.heap.size, 0, none⟩ = some (.int .i64 e.kind) := by rw [hW2]; exact cell_made4 w1 _ _ 0 _ rfl
  have a1 : W2.cell? ⟨w1.heap.size, 1, none⟩ = some (.int .i64 e.n) := by rw [hW2]; exact cell_made4 w1 _ _ 1 _ rfl
  have a2 : W2.cell? ⟨w1.heap.size, 2, none⟩ = some (.string e.s) := by rw [hW2]; exact cell_made4 w1 _ _ 2 _ rfl
  have a3 : W2.cell? ⟨w1.heap.size, 3, none⟩ = some (.slice Ae e.kids.length c) := by rw [hW2]; exact cell_made4 w1 _ _ 3 _ rfl
  have SN2 := hSN.below hb2
  have SV2 := hSV.below hb2
  have HI := Lib.hid (fun (W : World) (hW : Below W2.heap.size W2 W) => exprOf_any e Ae c w1.heap.size An Av cn cv ss zs W (K2.keep (hW.mono (Nat.le_of_lt hs2))) hc (Nat.le_trans (Nat.le_of_lt hs2) hW.size) (by omega) (by omega) (by omega) (SN2.below hW) (SV2.below hW))
  have HM := Lib.hid (fun (W : World) (hW : Below W2.heap.size W2 W) => specExprOf_any e Ae c w1.heap.size An Av cn cv ss zs W (K2.keep (hW.mono (Nat.le_of_lt hs2))) hc (Nat.le_trans (Nat.le_of_lt hs2) hW.size) (by omega) (by omega) (by omega) (SN2.below hW) (SV2.below hW))
  have HB2 := Lib.hid (hb1.trans (hb2.mono hb1.size))
  unfold Comes at HI HM
  obtain ⟨R, hR⟩ : ∃ R, R = ofE e ss zs := ⟨_, rfl⟩
  rw [← hR] at HI HM
  have HR := Lib.hid hR
  clear hR
  have HK2 := Lib.hid K2
  have HSN2 := Lib.hid SN2
  have HSV2 := Lib.hid SV2
  clear hO hb1 hb2 K2 SN2 SV2 H1 hSN hSV
  go_wp2_with fail
  rw [← hW2]
  clear hW2
  refine (HI.out W2 (Below.refl _ W2)).mono ?_
  rintro r w3 ⟨rfl, hb3⟩
  have c0 := (hb3.cell (p := ⟨w1.heap.size, 0, none⟩) hs2).trans a0
  have c1 := (hb3.cell (p := ⟨w1.heap.size, 1, none⟩) hs2).trans a1
  have c2 := (hb3.cell (p := ⟨w1.heap.size, 2, none⟩) hs2).trans a2
  have c3 := (hb3.cell (p := ⟨w1.heap.size, 3, none⟩) hs2).trans a3

  go_wp2_with fail
  refine (HM.out w3 hb3).mono ?_
  rintro r w4 ⟨rfl, hb4'⟩
  have hb4 := hb3.trans (hb4'.mono hb3.size)
  have hz4 := hb4.size
  have d0 := (hb4.cell (p := ⟨w1.heap.size, 0, none⟩) hs2).trans a0
  have d1 := (hb4.cell (p := ⟨w1.heap.size, 1, none⟩) hs2).trans a1
  have d2 := (hb4.cell (p := ⟨w1.heap.size, 2, none⟩) hs2).trans a2
  have d3 := (hb4.cell (p := ⟨w1.heap.size, 3, none⟩) hs2).trans a3

  have K4 := HK2.out.keep (hb4.mono (Nat.le_of_lt hs2))
  have SN4 := Lib.hid (HSN2.out.below hb4)
  have SV4 := Lib.hid (HSV2.out.below hb4)
  have HB4 := Lib.hid (HB2.out.trans (hb4.mono HB2.out.size))
  clear HI HM hb4' hb3 hb4 a0 a1 a2 a3 c0 c1 c2 c3 HK2 HSN2 HSV2
  cases R with
  | none =>
    simp only [Option.getD_none, Option.isSome_none]
    clear HR K4
    go_wp2_with fail
    go_ret
    exact ⟨rfl, HB4.out⟩

  | some n =>
    simp only [Option.getD_some, Option.isSome_some]
    have hR' := HR.out.symm
    obtain ⟨hn0, hn1⟩ := ofE_bounds hR'
    unfold ofE at hR'
    have hlen : ss.length = zs.length := by
      by_cases h : ss.length = zs.length
      · exact h
      · rw [if_neg h] at hR'; cases hR'
    rw [if_pos hlen] at hR'
    obtain ⟨p, hp, hv⟩ := Option.bind_eq_some_iff.1 hR'
    obtain ⟨rfl, hpok⟩ := okP_some hp
    have q2 : (n != n) = false := by simp
    have q3 : decide ((1000000 : Int) < n) = false := decide_eq_false (by omega)
    have q4 : decide (n < (-1000000 : Int)) = false := decide_eq_false (by omega)
    have HLEN := Lib.hid hlen
    clear HR hR' hlen
    cases p with
    | num m =>
      obtain rfl : m = n := by simpa [Pt.of] using hv
      have q5 : (m == m) = true := by simp
      simp only [Pt.ex, Ex.kind, Ex.n, Ex.s, Ex.kids, List.length_nil] at d0 d1 d2 d3 K4 hc ⊢
      clear hpok hp hv K4
      go_wp2_with fail
      go_ret
      exact ⟨rfl, HB4.out⟩

    | name s =>
      simp only [Pt.ex, Ex.kind, Ex.n, Ex.s, Ex.kids, List.length_nil] at d0 d1 d2 d3 K4 hc ⊢
      clear hpok hp hv K4
      go_wp2_with fail
      go_ret
      exact ⟨rfl, HB4.out⟩

    | «as» s a =>
      simp only [Pt.ex, Ex.kind, Ex.n, Ex.s, Ex.kids, List.length_cons, List.length_nil, Nat.zero_add] at d0 d1 d2 d3 K4 hc ⊢
      clear hpok hp hv K4
      go_wp2_with fail
      go_ret
      exact ⟨rfl, HB4.out⟩

    | two s a b =>
      obtain ⟨hh, haok, hbok⟩ := ok_two hpok
      obtain ⟨x, y, hx, hy, hxy⟩ : ∃ x y, a.of ss zs = some x ∧ b.of ss zs = some y ∧ n = twoN s x y := by
        rw [Pt.of] at hv
        cases hx : a.of ss zs with
        | none => rw [hx] at hv; simp at hv
        | some x =>
          cases hy : b.of ss zs with
          | none => rw [hx, hy] at hv; simp at hv
          | some y => rw [hx, hy] at hv; exact ⟨x, y, rfl, rfl, (Option.some.inj hv).symm⟩
      obtain ⟨hx0, hx1⟩ := Pt.of_bounds ss zs a (ok_fine haok) x hx
      obtain ⟨hy0, hy1⟩ := Pt.of_bounds ss zs b (ok_fine hbok) y hy
      have hae : ofE a.ex ss zs = some x := by unfold ofE; rw [if_pos HLEN.out, okP_ex haok]; exact hx
      have hbe : ofE b.ex ss zs = some y := by unfold ofE; rw [if_pos HLEN.out, okP_ex hbok]; exact hy
      have hw1 := Ex.wt_kid (k := 3) (n := 0) (s := s) (ks := [a.ex, b.ex]) (x := a.ex) (by simp)
      have hw2 := Ex.wt_kid (k := 3) (n := 0) (s := s) (ks := [a.ex, b.ex]) (x := b.ex) (by simp)
      have hwt' : (Ex.mk 3 0 s [a.ex, b.ex]).wt ≤ 2000 := hwt
      have HN := Lib.hid hxy
      clear hv hxy
      simp only [Pt.ex, Ex.kind, Ex.n, Ex.s, Ex.kids, List.length_cons, List.length_nil, Nat.zero_add, Nat.reduceAdd] at d0 d1 d2 d3 K4 hc ⊢
      obtain ⟨g0, off, D0, cc0, eA, hg0, kid0⟩ := K4.at_ (j := 0) (by simp)
      obtain ⟨g1, off', D1, cc1, eB, hg1, kid1⟩ := K4.at_ (j := 1) (by simp)
      rw [eA] at eB
      injection eB with eB
      injection eB with ea eb
      subst ea eb eA
      obtain ⟨a0, a1, a2, a3, a4, a5⟩ := kid0
      obtain ⟨b0, b1, b2, b3, b4, b5⟩ := kid1
      simp only [List.getElem_cons_zero, List.getElem_cons_succ, Nat.zero_mul, Nat.add_zero, Nat.one_mul, Nat.add_assoc, Nat.reduceAdd] at a0 a1 a2 a3 a4 a5 b0 b1 b2 b3 b4 b5
      have hgl : g0 < w4.heap.size := by omega
      have HA := Lib.hid (fun (W : World) (hW : Below w4.heap.size w4 W) => exprOf_any a.ex D0 cc0 w1.heap.size An Av cn cv ss zs W (a5.keep (hW.mono (by omega))) a4 (Nat.le_trans (by omega) hW.size) (by omega) (by omega) (by omega) (SN4.out.below hW) (SV4.out.below hW))
      have HBB := Lib.hid (fun (W : World) (hW : Below w4.heap.size w4 W) => exprOf_any b.ex D1 cc1 w1.heap.size An Av cn cv ss zs W (b5.keep (hW.mono (by omega))) b4 (Nat.le_trans (by omega) hW.size) (by omega) (by omega) (by omega) (SN4.out.below hW) (SV4.out.below hW))
      rw [hae] at HA
      rw [hbe] at HBB
      unfold Comes at HA HBB
      have hs4 : w1.heap.size < w4.heap.size := by omega
      clear hae hbe a5 b5 K4 haok hbok hpok hw1 hw2 hwt hwt' hx hy hp SN4 SV4
      generalize a.ex = xa at *
      generalize b.ex = xb at *
      have hcs : s = sLess ∨ s = sPlus ∨ s = sMinus ∨ s = sTimes := by
        unfold hold at hh
        by_cases h1 : s = sLess
        · exact .inl h1
        by_cases h2 : s = sPlus
        · exact .inr (.inl h2)
        by_cases h3 : s = sMinus
        · exact .inr (.inr (.inl h3))
        by_cases h4 : s = sTimes
        · exact .inr (.inr (.inr h4))
        simp [h1, h2, h3, h4] at hh
      clear hh
      rcases hcs with hs | hs | hs | hs
      · have h45 : ¬ s = sMinus := by rw [hs]; decide
        have h42 : ¬ s = sTimes := by rw [hs]; decide
        have h60 : s = sLess := by exact hs
        have e45 : (s.toList == [45]) = false := by rw [isS]; exact decide_eq_false h45
        have e42 : (s.toList == [42]) = false := by rw [isS]; exact decide_eq_false h42
        have e60 : (s.toList == [60]) = true := by rw [isS]; exact decide_eq_true h60
        have HNC := Lib.hid (show n = if x < y then 1 else 0 from HN.out.trans (by rw [show s = sLess from hs]; rfl))
        clear hs h45 h42 h60
        go_wp2_with fail
        refine (HA.out w4 (Below.refl _ w4)).mono ?_
        rintro r w5 ⟨rfl, hb5⟩
        have hz5 := hb5.size
        have m2 := (hb5.cell (p := ⟨w1.heap.size, 2, none⟩) hs4).trans d2
        have m3 := (hb5.cell (p := ⟨w1.heap.size, 3, none⟩) hs4).trans d3
        have u0 := (hb5.cell (p := ⟨g0, off + 4, none⟩) hgl).trans b0
        have u1 := (hb5.cell (p := ⟨g0, off + 5, none⟩) hgl).trans b1
        have u2 := (hb5.cell (p := ⟨g0, off + 6, none⟩) hgl).trans b2
        have u3 := (hb5.cell (p := ⟨g0, off + 7, none⟩) hgl).trans b3
        clear d0 d1 d2 d3 a0 a1 a2 a3 b0 b1 b2 b3
        simp only [Option.getD_some, Option.isSome_some]
        go_wp2_with fail
        refine (HBB.out w5 hb5).mono ?_
        rintro r w6 ⟨rfl, hb6⟩
        have s2 := (hb6.cell (p := ⟨w1.heap.size, 2, none⟩) (by show w1.heap.size < _; omega)).trans m2
        have HB6 := Lib.hid (HB4.out.trans ((hb5.trans (hb6.mono hb5.size)).mono HB4.out.size))
        clear u0 u1 u2 u3 m2 m3
        simp only [Option.getD_some, Option.isSome_some]
        by_cases hg : x < y
        · have n1 : n = 1 := by rw [HNC.out, if_pos hg]
          have p0 : decide (x < y) = true := decide_eq_true hg
          subst n1
          clear HNC
          go_wp2_with fail
          go_ret
          exact ⟨rfl, HB6.out⟩
        have n1 : n = 0 := by rw [HNC.out, if_neg hg]
        have p0 : decide (x < y) = false := decide_eq_false hg
        subst n1
        clear HNC
        go_wp2_with fail
        go_ret
        exact ⟨rfl, HB6.out⟩
      · have h45 : ¬ s = sMinus := by rw [hs]; decide
        have h42 : ¬ s = sTimes := by rw [hs]; decide
        have h60 : ¬ s = sLess := by rw [hs]; decide
        have e45 : (s.toList == [45]) = false := by rw [isS]; exact decide_eq_false h45
        have e42 : (s.toList == [42]) = false := by rw [isS]; exact decide_eq_false h42
        have e60 : (s.toList == [60]) = false := by rw [isS]; exact decide_eq_false h60
        have HNC := Lib.hid (show n = cutN (x + y) from HN.out.trans (by rw [show s = sPlus from hs]; rfl))
        clear hs h45 h42 h60
        go_wp2_with fail
        refine (HA.out w4 (Below.refl _ w4)).mono ?_
        rintro r w5 ⟨rfl, hb5⟩
        have hz5 := hb5.size
        have m2 := (hb5.cell (p := ⟨w1.heap.size, 2, none⟩) hs4).trans d2
        have m3 := (hb5.cell (p := ⟨w1.heap.size, 3, none⟩) hs4).trans d3
        have u0 := (hb5.cell (p := ⟨g0, off + 4, none⟩) hgl).trans b0
        have u1 := (hb5.cell (p := ⟨g0, off + 5, none⟩) hgl).trans b1
        have u2 := (hb5.cell (p := ⟨g0, off + 6, none⟩) hgl).trans b2
        have u3 := (hb5.cell (p := ⟨g0, off + 7, none⟩) hgl).trans b3
        clear d0 d1 d2 d3 a0 a1 a2 a3 b0 b1 b2 b3
        simp only [Option.getD_some, Option.isSome_some]
        go_wp2_with fail
        refine (HBB.out w5 hb5).mono ?_
        rintro r w6 ⟨rfl, hb6⟩
        have s2 := (hb6.cell (p := ⟨w1.heap.size, 2, none⟩) (by show w1.heap.size < _; omega)).trans m2
        have HB6 := Lib.hid (HB4.out.trans ((hb5.trans (hb6.mono hb5.size)).mono HB4.out.size))
        clear u0 u1 u2 u3 m2 m3
        simp only [Option.getD_some, Option.isSome_some]
        by_cases hg : (1000000 : Int) < x + y
        · have n1 : n = 1000000 := by rw [HNC.out]; unfold cutN; omega
          subst n1
          have p1 : ((1000000 : Int) == x + y) = false := by rw [beq_eq_false_iff_ne]; omega
          have p2 : decide ((1000000 : Int) < x + y) = true := decide_eq_true hg
          clear HNC
          go_wp2_with fail
          go_ret
          exact ⟨rfl, HB6.out⟩
        by_cases hg2 : x + y < (-1000000 : Int)
        · have n1 : n = -1000000 := by rw [HNC.out]; unfold cutN; omega
          subst n1
          have p1 : ((-1000000 : Int) == x + y) = false := by rw [beq_eq_false_iff_ne]; omega
          have p2 : decide ((1000000 : Int) < x + y) = false := decide_eq_false (by omega)
          have p3 : decide (x + y < (-1000000 : Int)) = true := decide_eq_true hg2
          clear HNC
          go_wp2_with fail
          go_ret
          exact ⟨rfl, HB6.out⟩
        have n1 : n = x + y := by rw [HNC.out]; unfold cutN; omega
        have p1 : (n == x + y) = true := by rw [n1]; simp
        clear HNC n1
        go_wp2_with fail
        go_ret
        exact ⟨rfl, HB6.out⟩
      · have h45 : s = sMinus := by exact hs
        have h42 : ¬ s = sTimes := by rw [hs]; decide
        have h60 : ¬ s = sLess := by rw [hs]; decide
        have e45 : (s.toList == [45]) = true := by rw [isS]; exact decide_eq_true h45
        have e42 : (s.toList == [42]) = false := by rw [isS]; exact decide_eq_false h42
        have e60 : (s.toList == [60]) = false := by rw [isS]; exact decide_eq_false h60
        have HNC := Lib.hid (show n = cutN (x - y) from HN.out.trans (by rw [show s = sMinus from hs]; rfl))
        clear hs h45 h42 h60
        go_wp2_with fail
        refine (HA.out w4 (Below.refl _ w4)).mono ?_
        rintro r w5 ⟨rfl, hb5⟩
        have hz5 := hb5.size
        have m2 := (hb5.cell (p := ⟨w1.heap.size, 2, none⟩) hs4).trans d2
        have m3 := (hb5.cell (p := ⟨w1.heap.size, 3, none⟩) hs4).trans d3
        have u0 := (hb5.cell (p := ⟨g0, off + 4, none⟩) hgl).trans b0
        have u1 := (hb5.cell (p := ⟨g0, off + 5, none⟩) hgl).trans b1
        have u2 := (hb5.cell (p := ⟨g0, off + 6, none⟩) hgl).trans b2
        have u3 := (hb5.cell (p := ⟨g0, off + 7, none⟩) hgl).trans b3
        clear d0 d1 d2 d3 a0 a1 a2 a3 b0 b1 b2 b3
        simp only [Option.getD_some, Option.isSome_some]
        go_wp2_with fail
        refine (HBB.out w5 hb5).mono ?_
        rintro r w6 ⟨rfl, hb6⟩
        have s2 := (hb6.cell (p := ⟨w1.heap.size, 2, none⟩) (by show w1.heap.size < _; omega)).trans m2
        have HB6 := Lib.hid (HB4.out.trans ((hb5.trans (hb6.mono hb5.size)).mono HB4.out.size))
        clear u0 u1 u2 u3 m2 m3
        simp only [Option.getD_some, Option.isSome_some]
        by_cases hg : (1000000 : Int) < x - y
        · have n1 : n = 1000000 := by rw [HNC.out]; unfold cutN; omega
          subst n1
          have p1 : ((1000000 : Int) == x - y) = false := by rw [beq_eq_false_iff_ne]; omega
          have p2 : decide ((1000000 : Int) < x - y) = true := decide_eq_true hg
          clear HNC
          go_wp2_with fail
          go_ret
          exact ⟨rfl, HB6.out⟩
        by_cases hg2 : x - y < (-1000000 : Int)
        · have n1 : n = -1000000 := by rw [HNC.out]; unfold cutN; omega
          subst n1
          have p1 : ((-1000000 : Int) == x - y) = false := by rw [beq_eq_false_iff_ne]; omega
          have p2 : decide ((1000000 : Int) < x - y) = false := decide_eq_false (by omega)
          have p3 : decide (x - y < (-1000000 : Int)) = true := decide_eq_true hg2
          clear HNC
          go_wp2_with fail
          go_ret
          exact ⟨rfl, HB6.out⟩
        have n1 : n = x - y := by rw [HNC.out]; unfold cutN; omega
        have p1 : (n == x - y) = true := by rw [n1]; simp
        clear HNC n1
        go_wp2_with fail
        go_ret
        exact ⟨rfl, HB6.out⟩
      · have h45 : ¬ s = sMinus := by rw [hs]; decide
        have h42 : s = sTimes := by exact hs
        have h60 : ¬ s = sLess := by rw [hs]; decide
        have e45 : (s.toList == [45]) = false := by rw [isS]; exact decide_eq_false h45
        have e42 : (s.toList == [42]) = true := by rw [isS]; exact decide_eq_true h42
        have e60 : (s.toList == [60]) = false := by rw [isS]; exact decide_eq_false h60
        have hm := mul_bounds hx0 hx1 hy0 hy1
        have HNC := Lib.hid (show n = cutN (x * y) from HN.out.trans (by rw [show s = sTimes from hs]; rfl))
        clear hs h45 h42 h60
        go_wp2_with fail
        refine (HA.out w4 (Below.refl _ w4)).mono ?_
        rintro r w5 ⟨rfl, hb5⟩
        have hz5 := hb5.size
        have m2 := (hb5.cell (p := ⟨w1.heap.size, 2, none⟩) hs4).trans d2
        have m3 := (hb5.cell (p := ⟨w1.heap.size, 3, none⟩) hs4).trans d3
        have u0 := (hb5.cell (p := ⟨g0, off + 4, none⟩) hgl).trans b0
        have u1 := (hb5.cell (p := ⟨g0, off + 5, none⟩) hgl).trans b1
        have u2 := (hb5.cell (p := ⟨g0, off + 6, none⟩) hgl).trans b2
        have u3 := (hb5.cell (p := ⟨g0, off + 7, none⟩) hgl).trans b3
        clear d0 d1 d2 d3 a0 a1 a2 a3 b0 b1 b2 b3
        simp only [Option.getD_some, Option.isSome_some]
        go_wp2_with fail
        refine (HBB.out w5 hb5).mono ?_
        rintro r w6 ⟨rfl, hb6⟩
        have s2 := (hb6.cell (p := ⟨w1.heap.size, 2, none⟩) (by show w1.heap.size < _; omega)).trans m2
        have HB6 := Lib.hid (HB4.out.trans ((hb5.trans (hb6.mono hb5.size)).mono HB4.out.size))
        clear u0 u1 u2 u3 m2 m3
        simp only [Option.getD_some, Option.isSome_some]
        by_cases hg : (1000000 : Int) < x * y
        · have n1 : n = 1000000 := by rw [HNC.out]; unfold cutN; omega
          subst n1
          have p1 : ((1000000 : Int) == x * y) = false := by rw [beq_eq_false_iff_ne]; omega
          have p2 : decide ((1000000 : Int) < x * y) = true := decide_eq_true hg
          clear HNC
          go_wp2_with fail
          go_ret
          exact ⟨rfl, HB6.out⟩
        by_cases hg2 : x * y < (-1000000 : Int)
        · have n1 : n = -1000000 := by rw [HNC.out]; unfold cutN; omega
          subst n1
          have p1 : ((-1000000 : Int) == x * y) = false := by rw [beq_eq_false_iff_ne]; omega
          have p2 : decide ((1000000 : Int) < x * y) = false := decide_eq_false (by omega)
          have p3 : decide (x * y < (-1000000 : Int)) = true := decide_eq_true hg2
          clear HNC
          go_wp2_with fail
          go_ret
          exact ⟨rfl, HB6.out⟩
        have n1 : n = x * y := by rw [HNC.out]; unfold cutN; omega
        have p1 : (n == x * y) = true := by rw [n1]; simp
        clear HNC n1
        go_wp2_with fail
        go_ret
        exact ⟨rfl, HB6.out⟩

set_option linter.unusedVariables false in
set_option maxRecDepth 100000 in
theorem lifted (os : Os) (started : os.Started) (H : Type) (enc : TypeId × Value → H) :
    ReturnsInHanded {} Tryz.checked os 6 .any (fun w args => (Rows.fnExprOfSpec.pre enc Tryz.prog Tryz.f6 [] false w args ∧ laidMetH Tryz.prog laidL w) ∧ sizedMet enc Tryz.prog Tryz.f6 (OpenSpec.ofChange Rows.fnExprOfSpec) false w args)
      (Rows.fnExprOfSpec.post enc Tryz.prog Tryz.f6 false true false false) := by
  refine returnsInHanded_of_change_and (C := Tryz.checked) (X := fun w _ => laidMetH Tryz.prog laidL w) (fun _ _ _ hh h => h.of_heap hh) own started (by kernel_rfl) Tryz.func6
    (ChangeSpec.witness_shaped (enc := enc) (C := Tryz.checked) (os := os) (X := fun w _ => laidMetH Tryz.prog laidL w) false (World.doorLaid Tryz.prog 62 os) #[.slice none 0 0] 8 rfl (World.shaped_of_RefB (by kernel_rfl) (by kernel_rfl)) (by kernel_rfl) (by kernel_rfl) (by kernel_rfl) (door_met os _)) ?_
  intro W base args ds gs before hval0 hW _ _ hL _
  have hval : ∀ (j : Nat) t v, Tryz.f6.params[j]? = some t → args[j]? = some v → Value.okWide Tryz.prog W .any base t v := hval0
  have hW' := hW
  obtain ⟨p, q, hA0, hV, rfl, hfz, hnd⟩ := hW
  have hA : DataW.TrodAll enc Tryz.prog W 0 (fun _ => true) true Tryz.f6.params.toList args.toList ds p := hA0
  rw [Tryz.params6] at hA hval
  obtain ⟨v0, vs0, d0, ds0, p0, q0, hargs, rfl, rfl, h0, r0⟩ := trodAll_cons hA
  obtain ⟨rfl, rfl, rfl⟩ := trodAll_nil r0
  obtain rfl : args = #[v0] := by cases args; simp_all
  obtain ⟨rfl, rfl⟩ := trodVars_none hV
  have k0 := h0
  have lt0 : ∀ x ∈ p0, x.block < W.heap.size := by obtain ⟨m, hm⟩ := k0; exact DataW.trod_lt m _ _ _ hm
  obtain ⟨a0, len0, cap0, e0⟩ := okWide_slice Tryz.underlying43 (hval 0 43 v0 rfl rfl)
  subst e0
  have w0 : InCode W a0 len0 cap0 := by
    obtain ⟨fuel, hf⟩ := h0
    rcases open_ints Tryz.underlying43 Tryz.underlying5 (by kernel_rfl) hf with ⟨hcs, _⟩ | ⟨x, l, c, zs, hcs, _, hl, hm, hz, _, hcell, hwz⟩
    · simp [Value.cells] at hcs
      obtain ⟨rfl, rfl, rfl⟩ := hcs
      exact inCode_nil W
    · simp [Value.cells] at hcs
      obtain ⟨rfl, rfl, rfl⟩ := hcs
      exact inCode_of hl hm (by simpa using hz) hcell hwz
  clear hA0 hval0
  refine (walk a0 len0 cap0 W w0 (of_laid hL)).mono fun e W' ⟨he, bel⟩ => ?_
  subst he
  exact ⟨_, rfl, _, _, _, [], _, [], hW', trodAll_mk1 (shut_bool Tryz.underlying4 _), (trodAll_cons_mk (Below.trod laidOut (by kernel_rfl) (of_decide_eq_true (by kernel_rfl)) k0 bel lt0) trodAll_mk0), rfl, bel.frame _, fun h => by cases h⟩

theorem fact_inPlace : (Rows.fnExprOfRow.inPlace == Tryz.pinned.checked.prog.inPlace 6) = true := by kernel_rfl
theorem fact_unfollowed : (Rows.fnExprOfRow.unfollowed == Tryz.pinned.checked.prog.unfollowed 6) = true := by kernel_rfl
theorem fact_recurses : (Rows.fnExprOfRow.recurses == Tryz.pinned.checked.prog.recurses 6) = true := by kernel_rfl
theorem fact_named : (Rows.fnExprOfRow.named == Tryz.pinned.checked.prog.varsNamed 6) = true := by kernel_rfl
theorem fact_looks : true = Tryz.pinned.checked.prog.looks [] := by kernel_rfl
theorem fact_goes : false = Rows.fnExprOfRow.goesBy Tryz.pinned.checked.prog := by kernel_rfl
theorem over : Rows.fnExprOfRow.holds Tryz.pinned (OpenSpec.ofChange Rows.fnExprOfSpec) :=
  OpenClaim.holds_of_wide 6 Tryz.f6 rfl rfl rfl rfl rfl rfl rfl ⟨rfl, rfl, rfl, rfl, rfl⟩ rfl rfl rfl rfl rfl (by kernel_rfl) Tryz.func6 (by unfold joinedFacts; rw [fact_inPlace, fact_unfollowed, fact_recurses, fact_named, fact_mayEnter, fact_liftsFinal, fact_make]; kernel_rfl)
    (of_decide_eq_true (by kernel_rfl)) (by unfold Func.isWrapper; first | (rw [if_pos (by decide +kernel)]; kernel_rfl) | (rw [if_neg (by decide +kernel)]; exact ⟨rfl, rfl⟩))
    (fun os started H enc _ => lifted os started H enc)
end Go.Proofs.YtaclndbilpaboaaGreatDoor.fnExprOf
namespace Go.Proofs.YtaclndbilpaboaaGreatDoor

/-- The given statement. -/
theorem fnExprOf_proved : Rows.FnExprOfCardSaid :=
  Claim7.holds_tied_plain_at .later [] [.data, .data, .data, .sentinel, .sentinel] true (true, "d59a752a42933f4c64dc0229007701c4457acaffb434023d5d2d208b9301664c") true
    fnExprOf.over (fun _ h => by cases h) (by kernel_rfl) (fun _ h => by cases h) fnExprOf_row_tie rfl ⟨rfl, rfl⟩ fact_mainIs rfl
    (fun f fn hf hfn => by
      obtain rfl : f = 6 := Option.some.inj ((show Tryz.prog.funcNamed "loop.example/interlinear/laws.FnExprOf" = some 6 by kernel_rfl).symm.trans hf) |>.symm
      obtain rfl : fn = Tryz.f6 := (Option.some.inj (Tryz.func6.symm.trans hfn)).symm
      exact ⟨fnExprOf.fact_looks, fun j t ht => by
        rw [Tryz.params6] at ht
        have hm : t ∈ [43] := by simpa using Array.mem_of_getElem? ht
        have hall : ([43].all fun u => !Tryz.prog.wantsStandIn u) = true := by kernel_rfl
        exact (show Tryz.prog.wantsStandIn t = false by simpa using List.all_eq_true.1 hall t hm)⟩)
    fnExprOf.fact_goes
#print axioms fnExprOf_proved
end Go.Proofs.YtaclndbilpaboaaGreatDoor
