/-
  'laws.FnExprType' returns true at every code.
  Conditions: the library's variables hold what their initialisers lay (tied to the program's text); every slice of bytes.
-/
import Derived.Test.YtaclndbilpaboaaGreatDoorMethType
import Derived.Test.YtaclndbilpaboaaGreatDoorDrawType
import Derived.Test.YtaclndbilpaboaaGreatDoorLaid
import Derived.Test.YtaclndbilpaboaaGreatDoorCards
import Derived.Test.YtaclndbilpaboaaGreatDoorTie
import Derived.Test.YtaclndbilpaboaaGreatDoorFacts
import Derived.Test.YtaclndbilpaboaaGreatDoorRows
import Derived.WalkKit
import Derived.ProofKit
import Derived.OpenShut
import Derived.ShutString
import Derived.ChangeOld
import Derived.Below
import Derived.Lib.SmallJoins
import Derived.SliceStrings
namespace Go.Proofs.YtaclndbilpaboaaGreatDoor.fnExprType
open Go.ChangeShapes Go.WideShapes Go.ChangeAt Go.RowKit Go.Joins
open Go.ChangeMaps (open_string shut_string)


set_option maxRecDepth 100000 in
set_option maxHeartbeats 4000000 in
theorem walk (A : Option Addr) (len cap : Nat) (w : World) (h : InCode w A len cap) (_ : LaidW w) :
    Calls Tryz.prog 5 #[.slice A len cap] w fun r w' => r = .returned (.bool true) ∧ Below w.heap.size w w' := by
  have hm := h.2.1
  have hl := h.1
  unfold maxLen at hm
  by_cases hbig : 1048576 < len
  · have q : decide ((1048576 : Int) < (len : Int)) = true := by simp; omega
    go_enter Tryz.func5, Tryz.ntmps5
    go_wp2_with fail
    go_ret
    exact ⟨rfl, Below.refl _ _⟩
  have q : decide ((1048576 : Int) < (len : Int)) = false := by simp; omega
  have HD := Lib.hid (drawExprType_any A len cap w h)
  clear h
  go_enter Tryz.func5, Tryz.ntmps5
  go_wp2_with fail
  refine HD.out.mono ?_
  rintro r w1 ⟨e, Ae, c, An, Av, cn, cv, ss, vs, rfl, hc, hO, _, hwt, hN, hV, hls, hlv, hb1⟩
  obtain ⟨W2, hW2⟩ : ∃ W2, W2 = w1.alloc (.cells #[.int .i64 e.kind, .int .i64 e.n, .string e.s, .slice Ae e.kids.length c] 31) := ⟨_, rfl⟩
  have hb2 : Below w1.heap.size w1 W2 := by rw [hW2]; exact (Below.refl _ w1).alloc (Nat.le_refl _) _
  have hs2 : w1.heap.size < W2.heap.size := by rw [hW2]; simp
  have c0 : W2.cell? ⟨w1.heap.size, 0, none⟩ = some (.int .i64 e.kind) := by rw [hW2]; exact cell_made4 w1 _ _ 0 _ rfl
  have c1 : W2.cell? ⟨w1.heap.size, 1, none⟩ = some (.int .i64 e.n) := by rw [hW2]; exact cell_made4 w1 _ _ 1 _ rfl
  have c2 : W2.cell? ⟨w1.heap.size, 2, none⟩ = some (.string e.s) := by rw [hW2]; exact cell_made4 w1 _ _ 2 _ rfl
  have c3 : W2.cell? ⟨w1.heap.size, 3, none⟩ = some (.slice Ae e.kids.length c) := by rw [hW2]; exact cell_made4 w1 _ _ 3 _ rfl
  have hK2 := (own_kids e _ _ _ _ hO (Nat.le_refl _)).keep hb2
  have SN2 := hN.below hb2
  have SV2 := hV.below hb2
  have HB2 := Lib.hid (hb1.trans (hb2.mono hb1.size))
  have HT := Lib.hid (exprType_any e Ae c w1.heap.size An Av cn cv ss vs W2 hK2 hc (Nat.le_of_lt hs2) (by omega) (by omega) (by omega) SN2 SV2)
  have HS := Lib.hid (fun (W : World) (hW : Below W2.heap.size W2 W) => specExprType_any e Ae c w1.heap.size An Av cn cv ss vs W (hK2.keep (hW.mono (Nat.le_of_lt hs2))) hc (Nat.le_trans (Nat.le_of_lt hs2) hW.size) (by omega) (by omega) (by omega) (SN2.below hW) (SV2.below hW))
  have HK2 := Lib.hid hK2
  have HSN2 := Lib.hid SN2
  have HSV2 := Lib.hid SV2
  have hkl := kids_le (show e.wt ≤ 2 ^ 40 by omega)
  clear hO hN hV hK2 SN2 SV2 HD hb2
  have HKIND := Lib.hid (show typE e ss vs = ByteArray.empty ∨ typE e ss vs = sInt ∨ typE e ss vs = sBool by
    unfold typE
    split
    · rename_i p hp
      split
      · rename_i hh
        rcases typ_kind (names := ss) hh.2 p (ok_fine (okP_some hp).2) with h | h
        · exact .inl h
        · exact .inr (type_cases h)
      · exact .inl rfl
    · exact .inl rfl)
  go_wp2_with fail
  rw [← hW2]
  clear hW2
  refine HT.out.mono ?_
  rintro r w3 ⟨rfl, hb3⟩
  have d0 := (hb3.cell (p := ⟨w1.heap.size, 0, none⟩) hs2).trans c0
  have d1 := (hb3.cell (p := ⟨w1.heap.size, 1, none⟩) hs2).trans c1
  have d2 := (hb3.cell (p := ⟨w1.heap.size, 2, none⟩) hs2).trans c2
  have d3 := (hb3.cell (p := ⟨w1.heap.size, 3, none⟩) hs2).trans c3
  go_wp2_with fail
  refine (HS.out w3 hb3).mono ?_
  rintro r w4 ⟨rfl, hb4'⟩
  have hb4 := hb3.trans (hb4'.mono hb3.size)
  clear d0 d1 d2 d3
  have d0 := (hb4.cell (p := ⟨w1.heap.size, 0, none⟩) hs2).trans c0
  have d1 := (hb4.cell (p := ⟨w1.heap.size, 1, none⟩) hs2).trans c1
  have d2 := (hb4.cell (p := ⟨w1.heap.size, 2, none⟩) hs2).trans c2
  have d3 := (hb4.cell (p := ⟨w1.heap.size, 3, none⟩) hs2).trans c3
  have HB4 := Lib.hid (HB2.out.trans (hb4.mono HB2.out.size))
  have K4 := Lib.hid (HK2.out.keep (hb4.mono (Nat.le_of_lt hs2)))
  have SN4 := Lib.hid (HSN2.out.below hb4)
  have SV4 := Lib.hid (HSV2.out.below hb4)
  have hz4 := hb4.size
  clear HT HS HK2 HSN2 HSV2 c0 c1 c2 c3 hb3 hb4'
  have qq : (!(typE e ss vs).toList == (typE e ss vs).toList) = false := by simp
  rcases HKIND.out with hR | hR | hR
  · rw [show typE e ss vs = ⟨#[]⟩ from hR]
    clear HKIND hR qq
    go_wp2_with fail
    go_ret
    exact ⟨rfl, HB4.out⟩
  · clear HKIND
    obtain ⟨p, hp⟩ : ∃ p, okP e = some p := by
      cases h : okP e with
      | none => unfold typE at hR; rw [h] at hR; exact absurd hR (by show ByteArray.empty ≠ sInt; decide)
      | some p => exact ⟨p, rfl⟩
    obtain ⟨rfl, hpok⟩ := okP_some hp
    have hla : ss.length = vs.length ∧ vs.all typeB = true := by
      unfold typE at hR
      rw [hp] at hR
      simp only at hR
      split at hR
      · assumption
      · exact absurd hR (by show ByteArray.empty ≠ sInt; decide)
    obtain ⟨hlen, hall⟩ := hla
    have htyp : p.typ ss vs = sInt := by
      unfold typE at hR
      rw [hp] at hR
      simpa [hlen, hall] using hR
    obtain ⟨v, hv⟩ := typ_typed (nums := List.replicate ss.length 0) p (by rw [htyp]; decide)
    have hof : ofE p.ex ss (List.replicate ss.length 0) = some v := by unfold ofE; rw [if_pos (by simp), hp]; exact hv
    have HLEN := Lib.hid hlen
    have hmk := fun W => run_make_row' (P := Tryz.prog) 37 3 (.int .i64 0) 8 Tryz.underlying37 infoInt rfl .i64 .i64 ss.length (by omega) (by omega) W
    have hb5 : Below w4.heap.size w4 (w4.alloc (.cells (madeCells #[.int .i64 0] ss.length) 3)) := (Below.refl _ w4).alloc (Nat.le_refl _) _
    have hSZ : SlIs (w4.alloc (.cells (madeCells #[.int .i64 0] ss.length) 3)) (some ⟨w4.heap.size, 0, none⟩) ((List.replicate ss.length (0 : Int)).map intV) := by
      have := SlIs.own (own_made w4 (.int .i64 0) ss.length (by unfold maxLen; omega) 3)
      simpa [intV] using this
    have h14 : w1.heap.size < w4.heap.size := by omega
    have HO := Lib.hid (exprOf_any p.ex Ae c w1.heap.size An (some ⟨w4.heap.size, 0, none⟩) cn ss.length ss (List.replicate ss.length 0) _ (K4.out.keep (hb5.mono (Nat.le_of_lt h14))) hc (Nat.le_trans (Nat.le_of_lt h14) hb5.size) (by omega) (by omega) (by simp; omega) (SN4.out.below hb5) hSZ)
    rw [hof, List.length_replicate] at HO
    have e0 := (hb5.cell (p := ⟨w1.heap.size, 0, none⟩) h14).trans d0
    have e1 := (hb5.cell (p := ⟨w1.heap.size, 1, none⟩) h14).trans d1
    have e2 := (hb5.cell (p := ⟨w1.heap.size, 2, none⟩) h14).trans d2
    have e3 := (hb5.cell (p := ⟨w1.heap.size, 3, none⟩) h14).trans d3
    have K5 := Lib.hid (K4.out.keep (hb5.mono (Nat.le_of_lt h14)))
    have SN5 := Lib.hid (SN4.out.below hb5)
    have SV5 := Lib.hid (SV4.out.below hb5)
    have HB5 := Lib.hid (HB4.out.trans (hb5.mono HB4.out.size))
    have h15 := Nat.lt_of_lt_of_le h14 hb5.size
    rw [show typE p.ex ss vs = ⟨#[105, 110, 116]⟩ from hR]
    clear hR hSZ hv hof hlen K4 SN4 SV4 qq hb5
    cases p with
    | num n =>
      simp only [Pt.ex, Ex.kind, Ex.n, Ex.s, Ex.kids, List.length_nil] at d0 d1 d2 d3 e0 e1 e2 e3 K5 HO hc hkl ⊢
      go_wp2_with fail
      refine HO.out.mono ?_
      rintro r w6 ⟨rfl, hb6⟩
      have HB6 := Lib.hid (HB5.out.trans (hb6.mono HB5.out.size))
      have hz6 := hb6.size
      have i0 := (hb6.cell (p := ⟨w1.heap.size, 0, none⟩) h15).trans e0
      have i1 := (hb6.cell (p := ⟨w1.heap.size, 1, none⟩) h15).trans e1
      have i2 := (hb6.cell (p := ⟨w1.heap.size, 2, none⟩) h15).trans e2
      have i3 := (hb6.cell (p := ⟨w1.heap.size, 3, none⟩) h15).trans e3
      have K6 := Lib.hid (K5.out.keep (hb6.mono (Nat.le_of_lt h15)))
      have SN6 := Lib.hid (SN5.out.below hb6)
      have SV6 := Lib.hid (SV5.out.below hb6)
      clear d0 d1 d2 d3 e0 e1 e2 e3 K5 SN5 SV5 HO hmk
      simp only [Option.getD_some, Option.isSome_some]
      go_wp2_with fail
      go_ret
      exact ⟨rfl, HB6.out⟩
    | name s =>
      simp only [Pt.ex, Ex.kind, Ex.n, Ex.s, Ex.kids, List.length_nil] at d0 d1 d2 d3 e0 e1 e2 e3 K5 HO hc hkl ⊢
      go_wp2_with fail
      refine HO.out.mono ?_
      rintro r w6 ⟨rfl, hb6⟩
      have HB6 := Lib.hid (HB5.out.trans (hb6.mono HB5.out.size))
      have hz6 := hb6.size
      have i0 := (hb6.cell (p := ⟨w1.heap.size, 0, none⟩) h15).trans e0
      have i1 := (hb6.cell (p := ⟨w1.heap.size, 1, none⟩) h15).trans e1
      have i2 := (hb6.cell (p := ⟨w1.heap.size, 2, none⟩) h15).trans e2
      have i3 := (hb6.cell (p := ⟨w1.heap.size, 3, none⟩) h15).trans e3
      have K6 := Lib.hid (K5.out.keep (hb6.mono (Nat.le_of_lt h15)))
      have SN6 := Lib.hid (SN5.out.below hb6)
      have SV6 := Lib.hid (SV5.out.below hb6)
      clear d0 d1 d2 d3 e0 e1 e2 e3 K5 SN5 SV5 HO hmk
      simp only [Option.getD_some, Option.isSome_some]
      go_wp2_with fail
      go_ret
      exact ⟨rfl, HB6.out⟩
    | «as» s a =>
      obtain ⟨hts, haok⟩ := ok_as hpok
      have hane : a.typ ss vs ≠ ByteArray.empty := fun h => by rw [Pt.typ, if_pos h] at htyp; exact absurd htyp (by show ByteArray.empty ≠ sInt; decide)
      have hse : s = ⟨#[105, 110, 116]⟩ := by rw [Pt.typ, if_neg hane] at htyp; exact htyp
      subst hse
      have hae : typE a.ex ss vs = a.typ ss vs := by unfold typE; rw [okP_ex haok]; simp [HLEN.out, hall]
      have hwk := Ex.wt_kid (k := 4) (n := 0) (s := ⟨#[105, 110, 116]⟩) (ks := [a.ex]) (x := a.ex) (by simp)
      have hwt' : (Ex.mk 4 0 ⟨#[105, 110, 116]⟩ [a.ex]).wt ≤ 2000 := hwt
      have qm : ((a.typ ss vs).toList == []) = false := by rw [isS, decide_eq_false_iff_not]; exact hane
      simp only [Pt.ex, Ex.kind, Ex.n, Ex.s, Ex.kids, List.length_cons, List.length_nil, Nat.zero_add] at d0 d1 d2 d3 e0 e1 e2 e3 K5 HO hc hkl ⊢
      go_wp2_with fail
      refine HO.out.mono ?_
      rintro r w6 ⟨rfl, hb6⟩
      have HB6 := Lib.hid (HB5.out.trans (hb6.mono HB5.out.size))
      have hz6 := hb6.size
      have i0 := (hb6.cell (p := ⟨w1.heap.size, 0, none⟩) h15).trans e0
      have i1 := (hb6.cell (p := ⟨w1.heap.size, 1, none⟩) h15).trans e1
      have i2 := (hb6.cell (p := ⟨w1.heap.size, 2, none⟩) h15).trans e2
      have i3 := (hb6.cell (p := ⟨w1.heap.size, 3, none⟩) h15).trans e3
      have K6 := Lib.hid (K5.out.keep (hb6.mono (Nat.le_of_lt h15)))
      have SN6 := Lib.hid (SN5.out.below hb6)
      have SV6 := Lib.hid (SV5.out.below hb6)
      clear d0 d1 d2 d3 e0 e1 e2 e3 K5 SN5 SV5 HO hmk
      simp only [Option.getD_some, Option.isSome_some]
      obtain ⟨g0, off, D0, cc0, eA, hg0, kid0⟩ := K6.out.at_ (j := 0) (by simp)
      subst eA
      obtain ⟨a0, a1, a2, a3, a4, a5⟩ := kid0
      simp only [List.getElem_cons_zero, Nat.zero_mul, Nat.add_zero] at a0 a1 a2 a3 a4 a5
      have HT := Lib.hid (exprType_any a.ex D0 cc0 w1.heap.size An Av cn cv ss vs w6 a5 a4 (by omega) (by omega) (by omega) (by omega) SN6.out SV6.out)
      rw [hae] at HT
      generalize a.typ ss vs = R1 at *
      clear hae hane htyp a5 K6 haok hts hpok hwt' hwk hwt hp
      generalize a.ex = x at *
      go_wp2_with fail
      refine HT.out.mono ?_
      rintro r w7 ⟨rfl, hb7⟩
      go_wp2_with fail
      go_ret
      exact ⟨rfl, HB6.out.trans (hb7.mono HB6.out.size)⟩
    | two s a b =>
      obtain ⟨hh, haok, hbok⟩ := ok_two hpok
      have hab : a.typ ss vs = sInt ∧ b.typ ss vs = sInt := by
        rw [Pt.typ] at htyp
        split at htyp
        · assumption
        · exact absurd htyp (by show ByteArray.empty ≠ sInt; decide)
      rw [Pt.typ, if_pos hab] at htyp
      have hae : typE a.ex ss vs = sInt := by unfold typE; rw [okP_ex haok]; simp [HLEN.out, hall, hab.1]
      have hbe : typE b.ex ss vs = sInt := by unfold typE; rw [okP_ex hbok]; simp [HLEN.out, hall, hab.2]
      have hw1 := Ex.wt_kid (k := 3) (n := 0) (s := s) (ks := [a.ex, b.ex]) (x := a.ex) (by simp)
      have hw2 := Ex.wt_kid (k := 3) (n := 0) (s := s) (ks := [a.ex, b.ex]) (x := b.ex) (by simp)
      have hwt' : (Ex.mk 3 0 s [a.ex, b.ex]).wt ≤ 2000 := hwt
      by_cases h3 : s = sLess
      · rw [if_pos h3] at htyp; exact absurd htyp (by decide)
      · have q3 : (s.toList == [60]) = false := by rw [isS, decide_eq_false_iff_not]; exact h3
        clear h3 htyp
        simp only [Pt.ex, Ex.kind, Ex.n, Ex.s, Ex.kids, List.length_cons, List.length_nil, Nat.zero_add, Nat.reduceAdd] at d0 d1 d2 d3 e0 e1 e2 e3 K5 HO hc hkl ⊢
        go_wp2_with fail
        refine HO.out.mono ?_
        rintro r w6 ⟨rfl, hb6⟩
        have HB6 := Lib.hid (HB5.out.trans (hb6.mono HB5.out.size))
        have hz6 := hb6.size
        have i0 := (hb6.cell (p := ⟨w1.heap.size, 0, none⟩) h15).trans e0
        have i1 := (hb6.cell (p := ⟨w1.heap.size, 1, none⟩) h15).trans e1
        have i2 := (hb6.cell (p := ⟨w1.heap.size, 2, none⟩) h15).trans e2
        have i3 := (hb6.cell (p := ⟨w1.heap.size, 3, none⟩) h15).trans e3
        have K6 := Lib.hid (K5.out.keep (hb6.mono (Nat.le_of_lt h15)))
        have SN6 := Lib.hid (SN5.out.below hb6)
        have SV6 := Lib.hid (SV5.out.below hb6)
        clear d0 d1 d2 d3 e0 e1 e2 e3 K5 SN5 SV5 HO hmk
        simp only [Option.getD_some, Option.isSome_some]
        obtain ⟨g0, off, D0, cc0, eA, hg0, kid0⟩ := K6.out.at_ (j := 0) (by simp)
        obtain ⟨g1, off', D1, cc1, eB, hg1, kid1⟩ := K6.out.at_ (j := 1) (by simp)
        rw [eA] at eB
        injection eB with eB
        injection eB with ea eb
        subst ea eb eA
        obtain ⟨a0, a1, a2, a3, a4, a5⟩ := kid0
        obtain ⟨b0, b1, b2, b3, b4, b5⟩ := kid1
        simp only [List.getElem_cons_zero, List.getElem_cons_succ, Nat.zero_mul, Nat.add_zero, Nat.one_mul, Nat.add_assoc, Nat.reduceAdd] at a0 a1 a2 a3 a4 a5 b0 b1 b2 b3 b4 b5
        have hgl : g0 < w6.heap.size := by omega
        have HT := Lib.hid (exprType_any a.ex D0 cc0 w1.heap.size An Av cn cv ss vs w6 a5 a4 (by omega) (by omega) (by omega) (by omega) SN6.out SV6.out)
        have HU := Lib.hid (fun (W : World) (hW : Below w6.heap.size w6 W) => exprType_any b.ex D1 cc1 w1.heap.size An Av cn cv ss vs W (b5.keep (hW.mono (by omega))) b4 (Nat.le_trans (by omega) hW.size) (by omega) (by omega) (by omega) (SN6.out.below hW) (SV6.out.below hW))
        rw [show typE a.ex ss vs = ⟨#[105, 110, 116]⟩ from hae] at HT
        rw [show typE b.ex ss vs = ⟨#[105, 110, 116]⟩ from hbe] at HU
        clear hae hbe hab a5 b5 K6 haok hbok hh hpok hw1 hw2 hwt hwt' hp
        generalize a.ex = x at *
        generalize b.ex = y at *
        go_wp2_with fail
        refine HT.out.mono ?_
        rintro r w7 ⟨rfl, hb7⟩
        have k2 := (hb7.cell (p := ⟨w1.heap.size, 2, none⟩) (by show w1.heap.size < _; omega)).trans i2
        have k3 := (hb7.cell (p := ⟨w1.heap.size, 3, none⟩) (by show w1.heap.size < _; omega)).trans i3
        have t0 := (hb7.cell (p := ⟨g0, off + 4, none⟩) hgl).trans b0
        have t1 := (hb7.cell (p := ⟨g0, off + 5, none⟩) hgl).trans b1
        have t2 := (hb7.cell (p := ⟨g0, off + 6, none⟩) hgl).trans b2
        have t3 := (hb7.cell (p := ⟨g0, off + 7, none⟩) hgl).trans b3
        have HU7 := Lib.hid (HU.out w7 hb7)
        clear i0 i1 i2 i3 a0 a1 a2 a3 b0 b1 b2 b3
        go_wp2_with fail
        refine HU7.out.mono ?_
        rintro r w8 ⟨rfl, hb8⟩
        have j2 := (hb8.cell (p := ⟨w1.heap.size, 2, none⟩) (by show w1.heap.size < _; have := hb7.size; omega)).trans k2
        go_wp2_with fail
        go_ret
        exact ⟨rfl, (HB6.out.trans (hb7.mono HB6.out.size)).trans (hb8.mono (Nat.le_trans HB6.out.size hb7.size))⟩
  · clear HKIND
    obtain ⟨p, hp⟩ : ∃ p, okP e = some p := by
      cases h : okP e with
      | none => unfold typE at hR; rw [h] at hR; exact absurd hR (by show ByteArray.empty ≠ sBool; decide)
      | some p => exact ⟨p, rfl⟩
    obtain ⟨rfl, hpok⟩ := okP_some hp
    have hla : ss.length = vs.length ∧ vs.all typeB = true := by
      unfold typE at hR
      rw [hp] at hR
      simp only at hR
      split at hR
      · assumption
      · exact absurd hR (by show ByteArray.empty ≠ sBool; decide)
    obtain ⟨hlen, hall⟩ := hla
    have htyp : p.typ ss vs = sBool := by
      unfold typE at hR
      rw [hp] at hR
      simpa [hlen, hall] using hR
    obtain ⟨v, hv⟩ := typ_typed (nums := List.replicate ss.length 0) p (by rw [htyp]; decide)
    have hof : ofE p.ex ss (List.replicate ss.length 0) = some v := by unfold ofE; rw [if_pos (by simp), hp]; exact hv
    have HLEN := Lib.hid hlen
    have hmk := fun W => run_make_row' (P := Tryz.prog) 37 3 (.int .i64 0) 8 Tryz.underlying37 infoInt rfl .i64 .i64 ss.length (by omega) (by omega) W
    have hb5 : Below w4.heap.size w4 (w4.alloc (.cells (madeCells #[.int .i64 0] ss.length) 3)) := (Below.refl _ w4).alloc (Nat.le_refl _) _
    have hSZ : SlIs (w4.alloc (.cells (madeCells #[.int .i64 0] ss.length) 3)) (some ⟨w4.heap.size, 0, none⟩) ((List.replicate ss.length (0 : Int)).map intV) := by
      have := SlIs.own (own_made w4 (.int .i64 0) ss.length (by unfold maxLen; omega) 3)
      simpa [intV] using this
    have h14 : w1.heap.size < w4.heap.size := by omega
    have HO := Lib.hid (exprOf_any p.ex Ae c w1.heap.size An (some ⟨w4.heap.size, 0, none⟩) cn ss.length ss (List.replicate ss.length 0) _ (K4.out.keep (hb5.mono (Nat.le_of_lt h14))) hc (Nat.le_trans (Nat.le_of_lt h14) hb5.size) (by omega) (by omega) (by simp; omega) (SN4.out.below hb5) hSZ)
    rw [hof, List.length_replicate] at HO
    have e0 := (hb5.cell (p := ⟨w1.heap.size, 0, none⟩) h14).trans d0
    have e1 := (hb5.cell (p := ⟨w1.heap.size, 1, none⟩) h14).trans d1
    have e2 := (hb5.cell (p := ⟨w1.heap.size, 2, none⟩) h14).trans d2
    have e3 := (hb5.cell (p := ⟨w1.heap.size, 3, none⟩) h14).trans d3
    have K5 := Lib.hid (K4.out.keep (hb5.mono (Nat.le_of_lt h14)))
    have SN5 := Lib.hid (SN4.out.below hb5)
    have SV5 := Lib.hid (SV4.out.below hb5)
    have HB5 := Lib.hid (HB4.out.trans (hb5.mono HB4.out.size))
    have h15 := Nat.lt_of_lt_of_le h14 hb5.size
    rw [show typE p.ex ss vs = ⟨#[98, 111, 111, 108]⟩ from hR]
    clear hR hSZ hv hof hlen K4 SN4 SV4 qq hb5
    cases p with
    | num n =>
      exact absurd htyp (by show sInt ≠ sBool; decide)
    | name s =>
      simp only [Pt.ex, Ex.kind, Ex.n, Ex.s, Ex.kids, List.length_nil] at d0 d1 d2 d3 e0 e1 e2 e3 K5 HO hc hkl ⊢
      go_wp2_with fail
      refine HO.out.mono ?_
      rintro r w6 ⟨rfl, hb6⟩
      have HB6 := Lib.hid (HB5.out.trans (hb6.mono HB5.out.size))
      have hz6 := hb6.size
      have i0 := (hb6.cell (p := ⟨w1.heap.size, 0, none⟩) h15).trans e0
      have i1 := (hb6.cell (p := ⟨w1.heap.size, 1, none⟩) h15).trans e1
      have i2 := (hb6.cell (p := ⟨w1.heap.size, 2, none⟩) h15).trans e2
      have i3 := (hb6.cell (p := ⟨w1.heap.size, 3, none⟩) h15).trans e3
      have K6 := Lib.hid (K5.out.keep (hb6.mono (Nat.le_of_lt h15)))
      have SN6 := Lib.hid (SN5.out.below hb6)
      have SV6 := Lib.hid (SV5.out.below hb6)
      clear d0 d1 d2 d3 e0 e1 e2 e3 K5 SN5 SV5 HO hmk
      simp only [Option.getD_some, Option.isSome_some]
      go_wp2_with fail
      go_ret
      exact ⟨rfl, HB6.out⟩
    | «as» s a =>
      obtain ⟨hts, haok⟩ := ok_as hpok
      have hane : a.typ ss vs ≠ ByteArray.empty := fun h => by rw [Pt.typ, if_pos h] at htyp; exact absurd htyp (by show ByteArray.empty ≠ sBool; decide)
      have hse : s = ⟨#[98, 111, 111, 108]⟩ := by rw [Pt.typ, if_neg hane] at htyp; exact htyp
      subst hse
      have hae : typE a.ex ss vs = a.typ ss vs := by unfold typE; rw [okP_ex haok]; simp [HLEN.out, hall]
      have hwk := Ex.wt_kid (k := 4) (n := 0) (s := ⟨#[98, 111, 111, 108]⟩) (ks := [a.ex]) (x := a.ex) (by simp)
      have hwt' : (Ex.mk 4 0 ⟨#[98, 111, 111, 108]⟩ [a.ex]).wt ≤ 2000 := hwt
      have qm : ((a.typ ss vs).toList == []) = false := by rw [isS, decide_eq_false_iff_not]; exact hane
      simp only [Pt.ex, Ex.kind, Ex.n, Ex.s, Ex.kids, List.length_cons, List.length_nil, Nat.zero_add] at d0 d1 d2 d3 e0 e1 e2 e3 K5 HO hc hkl ⊢
      go_wp2_with fail
      refine HO.out.mono ?_
      rintro r w6 ⟨rfl, hb6⟩
      have HB6 := Lib.hid (HB5.out.trans (hb6.mono HB5.out.size))
      have hz6 := hb6.size
      have i0 := (hb6.cell (p := ⟨w1.heap.size, 0, none⟩) h15).trans e0
      have i1 := (hb6.cell (p := ⟨w1.heap.size, 1, none⟩) h15).trans e1
      have i2 := (hb6.cell (p := ⟨w1.heap.size, 2, none⟩) h15).trans e2
      have i3 := (hb6.cell (p := ⟨w1.heap.size, 3, none⟩) h15).trans e3
      have K6 := Lib.hid (K5.out.keep (hb6.mono (Nat.le_of_lt h15)))
      have SN6 := Lib.hid (SN5.out.below hb6)
      have SV6 := Lib.hid (SV5.out.below hb6)
      clear d0 d1 d2 d3 e0 e1 e2 e3 K5 SN5 SV5 HO hmk
      simp only [Option.getD_some, Option.isSome_some]
      obtain ⟨g0, off, D0, cc0, eA, hg0, kid0⟩ := K6.out.at_ (j := 0) (by simp)
      subst eA
      obtain ⟨a0, a1, a2, a3, a4, a5⟩ := kid0
      simp only [List.getElem_cons_zero, Nat.zero_mul, Nat.add_zero] at a0 a1 a2 a3 a4 a5
      have HT := Lib.hid (exprType_any a.ex D0 cc0 w1.heap.size An Av cn cv ss vs w6 a5 a4 (by omega) (by omega) (by omega) (by omega) SN6.out SV6.out)
      rw [hae] at HT
      generalize a.typ ss vs = R1 at *
      clear hae hane htyp a5 K6 haok hts hpok hwt' hwk hwt hp
      generalize a.ex = x at *
      go_wp2_with fail
      refine HT.out.mono ?_
      rintro r w7 ⟨rfl, hb7⟩
      go_wp2_with fail
      go_ret
      exact ⟨rfl, HB6.out.trans (hb7.mono HB6.out.size)⟩
    | two s a b =>
      obtain ⟨hh, haok, hbok⟩ := ok_two hpok
      have hab : a.typ ss vs = sInt ∧ b.typ ss vs = sInt := by
        rw [Pt.typ] at htyp
        split at htyp
        · assumption
        · exact absurd htyp (by show ByteArray.empty ≠ sBool; decide)
      rw [Pt.typ, if_pos hab] at htyp
      have hae : typE a.ex ss vs = sInt := by unfold typE; rw [okP_ex haok]; simp [HLEN.out, hall, hab.1]
      have hbe : typE b.ex ss vs = sInt := by unfold typE; rw [okP_ex hbok]; simp [HLEN.out, hall, hab.2]
      have hw1 := Ex.wt_kid (k := 3) (n := 0) (s := s) (ks := [a.ex, b.ex]) (x := a.ex) (by simp)
      have hw2 := Ex.wt_kid (k := 3) (n := 0) (s := s) (ks := [a.ex, b.ex]) (x := b.ex) (by simp)
      have hwt' : (Ex.mk 3 0 s [a.ex, b.ex]).wt ≤ 2000 := hwt
      by_cases h3 : s = sLess
      · have q3 : (s.toList == [60]) = true := by rw [isS, decide_eq_true_eq]; exact h3
        clear h3 htyp
        simp only [Pt.ex, Ex.kind, Ex.n, Ex.s, Ex.kids, List.length_cons, List.length_nil, Nat.zero_add, Nat.reduceAdd] at d0 d1 d2 d3 e0 e1 e2 e3 K5 HO hc hkl ⊢
        go_wp2_with fail
        refine HO.out.mono ?_
        rintro r w6 ⟨rfl, hb6⟩
        have HB6 := Lib.hid (HB5.out.trans (hb6.mono HB5.out.size))
        have hz6 := hb6.size
        have i0 := (hb6.cell (p := ⟨w1.heap.size, 0, none⟩) h15).trans e0
        have i1 := (hb6.cell (p := ⟨w1.heap.size, 1, none⟩) h15).trans e1
        have i2 := (hb6.cell (p := ⟨w1.heap.size, 2, none⟩) h15).trans e2
        have i3 := (hb6.cell (p := ⟨w1.heap.size, 3, none⟩) h15).trans e3
        have K6 := Lib.hid (K5.out.keep (hb6.mono (Nat.le_of_lt h15)))
        have SN6 := Lib.hid (SN5.out.below hb6)
        have SV6 := Lib.hid (SV5.out.below hb6)
        clear d0 d1 d2 d3 e0 e1 e2 e3 K5 SN5 SV5 HO hmk
        simp only [Option.getD_some, Option.isSome_some]
        obtain ⟨g0, off, D0, cc0, eA, hg0, kid0⟩ := K6.out.at_ (j := 0) (by simp)
        obtain ⟨g1, off', D1, cc1, eB, hg1, kid1⟩ := K6.out.at_ (j := 1) (by simp)
        rw [eA] at eB
        injection eB with eB
        injection eB with ea eb
        subst ea eb eA
        obtain ⟨a0, a1, a2, a3, a4, a5⟩ := kid0
        obtain ⟨b0, b1, b2, b3, b4, b5⟩ := kid1
        simp only [List.getElem_cons_zero, List.getElem_cons_succ, Nat.zero_mul, Nat.add_zero, Nat.one_mul, Nat.add_assoc, Nat.reduceAdd] at a0 a1 a2 a3 a4 a5 b0 b1 b2 b3 b4 b5
        have hgl : g0 < w6.heap.size := by omega
        have HT := Lib.hid (exprType_any a.ex D0 cc0 w1.heap.size An Av cn cv ss vs w6 a5 a4 (by omega) (by omega) (by omega) (by omega) SN6.out SV6.out)
        have HU := Lib.hid (fun (W : World) (hW : Below w6.heap.size w6 W) => exprType_any b.ex D1 cc1 w1.heap.size An Av cn cv ss vs W (b5.keep (hW.mono (by omega))) b4 (Nat.le_trans (by omega) hW.size) (by omega) (by omega) (by omega) (SN6.out.below hW) (SV6.out.below hW))
        rw [show typE a.ex ss vs = ⟨#[105, 110, 116]⟩ from hae] at HT
        rw [show typE b.ex ss vs = ⟨#[105, 110, 116]⟩ from hbe] at HU
        clear hae hbe hab a5 b5 K6 haok hbok hh hpok hw1 hw2 hwt hwt' hp
        generalize a.ex = x at *
        generalize b.ex = y at *
        go_wp2_with fail
        refine HT.out.mono ?_
        rintro r w7 ⟨rfl, hb7⟩
        have k2 := (hb7.cell (p := ⟨w1.heap.size, 2, none⟩) (by show w1.heap.size < _; omega)).trans i2
        have k3 := (hb7.cell (p := ⟨w1.heap.size, 3, none⟩) (by show w1.heap.size < _; omega)).trans i3
        have t0 := (hb7.cell (p := ⟨g0, off + 4, none⟩) hgl).trans b0
        have t1 := (hb7.cell (p := ⟨g0, off + 5, none⟩) hgl).trans b1
        have t2 := (hb7.cell (p := ⟨g0, off + 6, none⟩) hgl).trans b2
        have t3 := (hb7.cell (p := ⟨g0, off + 7, none⟩) hgl).trans b3
        have HU7 := Lib.hid (HU.out w7 hb7)
        clear i0 i1 i2 i3 a0 a1 a2 a3 b0 b1 b2 b3
        go_wp2_with fail
        refine HU7.out.mono ?_
        rintro r w8 ⟨rfl, hb8⟩
        have j2 := (hb8.cell (p := ⟨w1.heap.size, 2, none⟩) (by show w1.heap.size < _; have := hb7.size; omega)).trans k2
        go_wp2_with fail
        go_ret
        exact ⟨rfl, (HB6.out.trans (hb7.mono HB6.out.size)).trans (hb8.mono (Nat.le_trans HB6.out.size hb7.size))⟩
      · rw [if_neg h3] at htyp; exact absurd htyp (by decide)

set_option linter.unusedVariables false in
set_option maxRecDepth 100000 in
theorem lifted (os : Os) (started : os.Started) (H : Type) (enc : TypeId × Value → H) :
    ReturnsInHanded {} Tryz.checked os 5 .any (fun w args => (Rows.fnExprTypeSpec.pre enc Tryz.prog Tryz.f5 [] false w args ∧ laidMetH Tryz.prog laidL w) ∧ sizedMet enc Tryz.prog Tryz.f5 (OpenSpec.ofChange Rows.fnExprTypeSpec) false w args)
      (Rows.fnExprTypeSpec.post enc Tryz.prog Tryz.f5 false true false false) := by
  refine returnsInHanded_of_change_and (C := Tryz.checked) (X := fun w _ => laidMetH Tryz.prog laidL w) (fun _ _ _ hh h => h.of_heap hh) own started (by kernel_rfl) Tryz.func5
    (ChangeSpec.witness_shaped (enc := enc) (C := Tryz.checked) (os := os) (X := fun w _ => laidMetH Tryz.prog laidL w) false (World.doorLaid Tryz.prog 62 os) #[.slice none 0 0] 8 rfl (World.shaped_of_RefB (by kernel_rfl) (by kernel_rfl)) (by kernel_rfl) (by kernel_rfl) (by kernel_rfl) (door_met os _)) ?_
  intro W base args ds gs before hval0 hW _ _ hL _
  have hval : ∀ (j : Nat) t v, Tryz.f5.params[j]? = some t → args[j]? = some v → Value.okWide Tryz.prog W .any base t v := hval0
  have hW' := hW
  obtain ⟨p, q, hA0, hV, rfl, hfz, hnd⟩ := hW
  have hA : DataW.TrodAll enc Tryz.prog W 0 (fun _ => true) true Tryz.f5.params.toList args.toList ds p := hA0
  rw [Tryz.params5] at hA hval
  obtain ⟨v0, vs0, d0, ds0, p0, q0, hargs, rfl, rfl, h0, r0⟩ := trodAll_cons hA
  obtain ⟨rfl, rfl, rfl⟩ := trodAll_nil r0
  obtain rfl : args = #[v0] := by cases args; simp_all
  obtain ⟨rfl, rfl⟩ := trodVars_none hV
  have k0 := h0
  have lt0 : ∀ x ∈ p0, x.block < W.heap.size := by obtain ⟨m, hm⟩ := k0; exact DataW.trod_lt m _ _ _ hm
  obtain ⟨a0, len0, cap0, e0⟩ := okWide_slice Tryz.underlying43 (hval 0 43 v0 rfl rfl)
  subst e0
  have w0 : InCode W a0 len0 cap0 := by
    obtain ⟨fuel, hf⟩ := h0
    rcases open_ints Tryz.underlying43 Tryz.underlying5 (by kernel_rfl) hf with ⟨hcs, _⟩ | ⟨x, l, c, zs, hcs, _, hl, hm, hz, _, hcell, hwz⟩
    · simp [Value.cells] at hcs
      obtain ⟨rfl, rfl, rfl⟩ := hcs
      exact inCode_nil W
    · simp [Value.cells] at hcs
      obtain ⟨rfl, rfl, rfl⟩ := hcs
      exact inCode_of hl hm (by simpa using hz) hcell hwz
  clear hA0 hval0
  refine (walk a0 len0 cap0 W w0 (of_laid hL)).mono fun e W' ⟨he, bel⟩ => ?_
  subst he
  exact ⟨_, rfl, _, _, _, [], _, [], hW', trodAll_mk1 (shut_bool Tryz.underlying4 _), (trodAll_cons_mk (Below.trod laidOut (by kernel_rfl) (of_decide_eq_true (by kernel_rfl)) k0 bel lt0) trodAll_mk0), rfl, bel.frame _, fun h => by cases h⟩

theorem fact_inPlace : (Rows.fnExprTypeRow.inPlace == Tryz.pinned.checked.prog.inPlace 5) = true := by kernel_rfl
theorem fact_unfollowed : (Rows.fnExprTypeRow.unfollowed == Tryz.pinned.checked.prog.unfollowed 5) = true := by kernel_rfl
theorem fact_recurses : (Rows.fnExprTypeRow.recurses == Tryz.pinned.checked.prog.recurses 5) = true := by kernel_rfl
theorem fact_named : (Rows.fnExprTypeRow.named == Tryz.pinned.checked.prog.varsNamed 5) = true := by kernel_rfl
theorem fact_looks : true = Tryz.pinned.checked.prog.looks [] := by kernel_rfl
theorem fact_goes : false = Rows.fnExprTypeRow.goesBy Tryz.pinned.checked.prog := by kernel_rfl
theorem over : Rows.fnExprTypeRow.holds Tryz.pinned (OpenSpec.ofChange Rows.fnExprTypeSpec) :=
  OpenClaim.holds_of_wide 5 Tryz.f5 rfl rfl rfl rfl rfl rfl rfl ⟨rfl, rfl, rfl, rfl, rfl⟩ rfl rfl rfl rfl rfl (by kernel_rfl) Tryz.func5 (by unfold joinedFacts; rw [fact_inPlace, fact_unfollowed, fact_recurses, fact_named, fact_mayEnter, fact_liftsFinal, fact_make]; kernel_rfl)
    (of_decide_eq_true (by kernel_rfl)) (by unfold Func.isWrapper; first | (rw [if_pos (by decide +kernel)]; kernel_rfl) | (rw [if_neg (by decide +kernel)]; exact ⟨rfl, rfl⟩))
    (fun os started H enc _ => lifted os started H enc)
end Go.Proofs.YtaclndbilpaboaaGreatDoor.fnExprType
namespace Go.Proofs.YtaclndbilpaboaaGreatDoor

/-- The given statement. -/
theorem fnExprType_proved : Rows.FnExprTypeCardSaid :=
  Claim7.holds_tied_plain_at .later [] [.data, .data, .data, .sentinel, .sentinel] true (true, "d59a752a42933f4c64dc0229007701c4457acaffb434023d5d2d208b9301664c") true
    fnExprType.over (fun _ h => by cases h) (by kernel_rfl) (fun _ h => by cases h) fnExprType_row_tie rfl ⟨rfl, rfl⟩ fact_mainIs rfl
    (fun f fn hf hfn => by
      obtain rfl : f = 5 := Option.some.inj ((show Tryz.prog.funcNamed "loop.example/interlinear/laws.FnExprType" = some 5 by kernel_rfl).symm.trans hf) |>.symm
      obtain rfl : fn = Tryz.f5 := (Option.some.inj (Tryz.func5.symm.trans hfn)).symm
      exact ⟨fnExprType.fact_looks, fun j t ht => by
        rw [Tryz.params5] at ht
        have hm : t ∈ [43] := by simpa using Array.mem_of_getElem? ht
        have hall : ([43].all fun u => !Tryz.prog.wantsStandIn u) = true := by kernel_rfl
        exact (show Tryz.prog.wantsStandIn t = false by simpa using List.all_eq_true.1 hall t hm)⟩)
    fnExprType.fact_goes
#print axioms fnExprType_proved
end Go.Proofs.YtaclndbilpaboaaGreatDoor
