/-
  The contracts of the model's l4Find, l4Cut, l4Two, l4Of, l4TypeOf, for all parts.
-/
import Derived.Test.YtabignplhkbcpaaGreatDoorGL
import Derived.Test.YtabignplhkbcpaaGreatDoorGA
import Derived.Test.YtabignplhkbcpaaGreatDoorGB
import Derived.Test.YtabignplhkbcpaaGreatDoorInts
import Derived.Test.YtabignplhkbcpaaGreatDoorMethCut
namespace Go.Proofs.YtabignplhkbcpaaGreatDoor
open Go.RowKit

def lastIx (ss : List ByteArray) (s : ByteArray) : Int := match lastOf ss s with
  | some k => (k : Int)
  | none => -1
set_option maxHeartbeats 1000000 in
theorem l4Find_any (A : Option Addr) (c : Nat) (ss : List ByteArray) (s : ByteArray) (w : World) (hl : ss.length ≤ 2 ^ 40) (hA : SlIs w A (ss.map strV)) :
    Calls Tryz.prog 55 #[.slice A ss.length c, .string s] w fun e w' => e = .returned (.int .i64 (lastIx ss s)) ∧ w = w' := by
  have HI := Lib.hid (show lastIx ss s = match findL ss s ss.length with | some k => (k : Int) | none => -1 from rfl)
  go_enter Tryz.func55, Tryz.ntmps55
  go_wp2_with fail
  go_loop [5] (fun i => ∃ k : Nat, k ≤ ss.length ∧ i = .int .i64 ((k : Int) - 1) ∧ Hid (findL ss s ss.length = findL ss s k)) (fun i => (intOf i + 1).toNat)
  case atStart => exact ⟨ss.length, Nat.le_refl _, rfl, Lib.hid rfl⟩
  case round =>
    obtain ⟨k, hk, rfl, HR⟩ := hrel
    rcases k with _ | k
    · have q : ((0 : Nat) : Int) - 1 = -1 := rfl
      rw [q]
      have HE := Lib.hid (show lastIx ss s = -1 by rw [HI.out, HR.out]; rfl)
      clear HR HI
      go_wp2_with fail
      go_ret
      exact ⟨ret_int HE.out.symm, rfl⟩
    · have q : ((k + 1 : Nat) : Int) - 1 = (k : Int) := by omega
      rw [q]
      have hkl : k < ss.length := hk
      obtain ⟨g, off, rfl, hg, hc⟩ := hA.at_ (k := k) (by simpa using hkl)
      simp only [List.getElem_map, strV] at hc
      have hgd : ss.getD k ByteArray.empty = ss[k] := by simp [List.getD, hkl]
      have HS := Lib.hid (show findL ss s (k + 1) = if ss[k] = s then some k else findL ss s k by rw [findL, hgd])
      clear hgd
      by_cases he : ss[k] = s
      · have q2 : (ss[k].toList == s.toList) = true := by rw [he]; simp
        have HE := Lib.hid (show lastIx ss s = (k : Int) by rw [HI.out, HR.out, HS.out, if_pos he])
        clear HR HI HS he
        generalize ss[k] = t at *
        go_wp2_with fail
        go_ret
        exact ⟨ret_int HE.out.symm, rfl⟩
      · have q2 : (ss[k].toList == s.toList) = false := by
          rw [beq_eq_false_iff_ne]; intro h; rw [ByteArray.toList_eq, ByteArray.toList_eq] at h; exact he (ByteArray.ext (Array.toList_inj.1 h))
        have HE := Lib.hid (show findL ss s ss.length = findL ss s k by rw [HR.out, HS.out, if_neg he])
        clear HR HS he
        generalize ss[k] = t at *
        go_wp2_with fail
        go_round
        case rel => exact ⟨k, by omega, by go_num, HE⟩
        case measure => simp [intOf]
theorem l1Max_any (a b : Int) (w : World) : Calls Tryz.prog 71 #[.int .i64 a, .int .i64 b] w fun e w' => e = .returned (.int .i64 (max a b)) ∧ w = w' := by
  by_cases h : b < a
  · have q : decide (b < a) = true := by simpa using h
    have HE := Lib.hid (show max a b = a by omega)
    clear h
    go_enter Tryz.func71, Tryz.ntmps71
    go_wp2_with fail
    go_ret
    exact ⟨ret_int HE.out.symm, rfl⟩
  · have q : decide (b < a) = false := by simpa using h
    have HE := Lib.hid (show max a b = b by omega)
    clear h
    go_enter Tryz.func71, Tryz.ntmps71
    go_wp2_with fail
    go_ret
    exact ⟨ret_int HE.out.symm, rfl⟩
theorem l1Min_any (a b : Int) (w : World) : Calls Tryz.prog 72 #[.int .i64 a, .int .i64 b] w fun e w' => e = .returned (.int .i64 (min a b)) ∧ w = w' := by
  by_cases h : a < b
  · have q : decide (a < b) = true := by simpa using h
    have HE := Lib.hid (show min a b = a by omega)
    clear h
    go_enter Tryz.func72, Tryz.ntmps72
    go_wp2_with fail
    go_ret
    exact ⟨ret_int HE.out.symm, rfl⟩
  · have q : decide (a < b) = false := by simpa using h
    have HE := Lib.hid (show min a b = b by omega)
    clear h
    go_enter Tryz.func72, Tryz.ntmps72
    go_wp2_with fail
    go_ret
    exact ⟨ret_int HE.out.symm, rfl⟩
theorem l4Cut_any (n : Int) (w : World) : Calls Tryz.prog 56 #[.int .i64 n] w fun e w' => e = .returned (.int .i64 (cutN n)) ∧ w = w' := by
  have HM := Lib.hid l1Max_any
  have HN := Lib.hid l1Min_any
  go_enter Tryz.func56, Tryz.ntmps56
  go_wp2_with fail
  refine (HN.out _ _ _).mono ?_
  rintro e w1 ⟨rfl, rfl⟩
  go_wp2_with fail
  refine (HM.out _ _ _).mono ?_
  rintro e w2 ⟨rfl, rfl⟩
  go_wp2_with fail
  go_ret
  exact ⟨rfl, rfl⟩
set_option maxRecDepth 100000 in
set_option maxHeartbeats 1000000 in
theorem l4Two_any (s : ByteArray) (a b : Int) (w : World) (ha0 : -1000000 ≤ a) (ha1 : a ≤ 1000000) (hb0 : -1000000 ≤ b) (hb1 : b ≤ 1000000) : Calls Tryz.prog 57 #[.string s, .int .i64 a, .int .i64 b] w fun e w' => e = .returned (.int .i64 (twoN s a b)) ∧ w = w' := by
  obtain ⟨hm0, hm1⟩ := mul_bounds ha0 ha1 hb0 hb1
  have HF := Lib.hid (show twoN s a b = (if (s.toList == [43]) = true then cutN (a + b) else if (s.toList == [45]) = true then cutN (a - b) else if (s.toList == [42]) = true then cutN (a * b) else if a < b then 1 else 0) by
    simp only [isS, decide_eq_true_eq]; rfl)
  have HC := Lib.hid l4Cut_any
  cases q0 : (s.toList == [43])
  · cases q1 : (s.toList == [45])
    · cases q2 : (s.toList == [42])
      · by_cases hab : a < b
        · have q : decide (a < b) = true := by simpa using hab
          have HB := Lib.hid (show twoN s a b = 1 by rw [HF.out, q0, q1, q2]; simp [hab])
          clear HF
          go_enter Tryz.func57, Tryz.ntmps57
          go_wp2_with fail
          go_ret
          exact ⟨ret_int HB.out.symm, rfl⟩
        · have q : decide (a < b) = false := by simpa using hab
          have HB := Lib.hid (show twoN s a b = 0 by rw [HF.out, q0, q1, q2]; simp [hab])
          clear HF
          go_enter Tryz.func57, Tryz.ntmps57
          go_wp2_with fail
          go_ret
          exact ⟨ret_int HB.out.symm, rfl⟩
      · have HB := Lib.hid (show twoN s a b = cutN (a * b) by rw [HF.out, q0, q1, q2]; rfl)
        clear HF
        go_enter Tryz.func57, Tryz.ntmps57
        go_wp2_with fail
        refine (HC.out _ _).mono ?_
        rintro e w1 ⟨rfl, rfl⟩
        go_wp2_with fail
        go_ret
        exact ⟨ret_int HB.out.symm, rfl⟩
    · have HB := Lib.hid (show twoN s a b = cutN (a - b) by rw [HF.out, q0, q1]; rfl)
      clear HF
      go_enter Tryz.func57, Tryz.ntmps57
      go_wp2_with fail
      refine (HC.out _ _).mono ?_
      rintro e w1 ⟨rfl, rfl⟩
      go_wp2_with fail
      go_ret
      exact ⟨ret_int HB.out.symm, rfl⟩
  · have HB := Lib.hid (show twoN s a b = cutN (a + b) by rw [HF.out, q0]; rfl)
    clear HF
    go_enter Tryz.func57, Tryz.ntmps57
    go_wp2_with fail
    refine (HC.out _ _).mono ?_
    rintro e w1 ⟨rfl, rfl⟩
    go_wp2_with fail
    go_ret
    exact ⟨ret_int HB.out.symm, rfl⟩

/-- Its type is told. -/
def Types (x : ByteArray) (w : World) (e : Ending) (w' : World) : Prop := e = .returned (.string x) ∧ Below w.heap.size w w'

set_option maxRecDepth 100000 in
set_option maxHeartbeats 2000000 in
theorem l4Of_any {An Av : Option Addr} {cn cv : Nat} {ss : List ByteArray} {vs : List Int} (hl : ss.length ≤ 2 ^ 40) (hlen : ss.length = vs.length) (p : Pt) : p.fine = true → ∀ (A : Option Addr) (c B : Nat) (w : World), KidsAt w B A p.ex.kids → p.ex.kids.length ≤ c → B ≤ w.heap.size → SlIs w An (ss.map strV) → SlIs w Av (vs.map intV) →
    Calls Tryz.prog 36 #[.agg #[.int .i64 p.ex.kind, .int .i64 p.ex.n, .string p.ex.s, .slice A p.ex.kids.length c], .slice An ss.length cn, .slice Av vs.length cv] w (Comes (p.of ss vs) w) := by
  induction p with
  | num n =>
    intro _ A c B w _ hc _ _ _
    simp only [Pt.ex, Ex.kind, Ex.n, Ex.s, Ex.kids, List.length_nil] at hc ⊢
    go_enter Tryz.func36, Tryz.ntmps36
    go_wp2_with fail
    go_ret2
    exact ⟨rfl, (Below.refl _ w).alloc (Nat.le_refl _) _⟩
  | name s =>
    intro hf A c B w _ hc _ hN hV
    simp only [Pt.ex, Ex.kind, Ex.n, Ex.s, Ex.kids, List.length_nil] at hc ⊢
    have HF := Lib.hid (show (Pt.name s).of ss vs = (lastOf ss s).map (fun i => cutN (vs.getD i 0)) from rfl)
    have HN := Lib.hid (fun W (hW : Below w.heap.size w W) => l4Find_any An cn ss s W hl (hN.below hW))
    have HC := Lib.hid l4Cut_any
    have hb0 : Below w.heap.size w (w.alloc (.cells #[.int .i64 2, .int .i64 0, .string s, .slice A 0 c] 34)) := (Below.refl _ w).alloc (Nat.le_refl _) _
    cases hlast : lastOf ss s with
    | none =>
      rw [hlast] at HF
      have hix : lastIx ss s = -1 := by unfold lastIx; rw [hlast]
      rw [hix] at HN
      clear hlast hix hN hV hf hlen
      go_enter Tryz.func36, Tryz.ntmps36
      go_wp2_with fail
      refine (HN.out _ hb0).mono ?_
      rintro e w1 ⟨rfl, rfl⟩
      go_wp2_with fail
      go_ret2
      exact ⟨by rw [HF.out]; rfl, hb0⟩
    | some i =>
      rw [hlast] at HF
      have hix : lastIx ss s = (i : Int) := by unfold lastIx; rw [hlast]
      rw [hix] at HN
      have hil : i < vs.length := by have := findL_lt hlast; omega
      obtain ⟨g, off, rfl, hg, hcg⟩ := hV.at_ (k := i) (by simpa using hil)
      simp only [List.getElem_map, intV] at hcg
      have hcg0 := (hb0.cell (p := ⟨g, off + i, none⟩) hg).trans hcg
      have HG := Lib.hid (show vs.getD i 0 = vs[i] by simp [List.getD, hil])
      generalize vs[i] = v at *
      have HF2 := Lib.hid (show (Pt.name s).of ss vs = some (cutN v) by rw [HF.out, Option.map_some, HG.out])
      have q1 : decide ((i : Int) < 0) = false := by simp
      have q2 : (i : Int) < (vs.length : Int) := by omega
      clear hlast hix hN hV hf hlen hcg
      go_enter Tryz.func36, Tryz.ntmps36
      go_wp2_with fail
      refine (HN.out _ hb0).mono ?_
      rintro e w1 ⟨rfl, rfl⟩
      go_wp2_with fail
      refine (HC.out _ _).mono ?_
      rintro e w2 ⟨rfl, rfl⟩
      go_wp2_with fail
      go_ret2
      exact ⟨by rw [HF2.out]; rfl, hb0⟩
  | «as» s a ia =>
    intro hf A c B w hA hc hB hN hV
    simp only [Pt.fine, Bool.and_eq_true] at hf
    simp only [Pt.ex, Ex.kind, Ex.n, Ex.s, Ex.kids, List.length_cons, List.length_nil, Nat.zero_add] at hA hc ⊢
    obtain ⟨g0, off, D0, cc0, e0, hg0, kid0⟩ := hA.at_ (j := 0) (by simp)
    subst e0
    obtain ⟨a0, a1, a2, a3, a4, a5⟩ := kid0
    simp only [List.getElem_cons_zero, Nat.zero_mul, Nat.add_zero] at a0 a1 a2 a3 a4 a5
    have hb0 : Below w.heap.size w (w.alloc (.cells #[.int .i64 4, .int .i64 0, .string s, .slice (some ⟨g0, off, none⟩) 1 c] 34)) := (Below.refl _ w).alloc (Nat.le_refl _) _
    have HI := Lib.hid (ia hf.2 D0 cc0 B _ (a5.keep (hb0.mono hB)) a4 (Nat.le_trans hB hb0.size) (hN.below hb0) (hV.below hb0))
    have hlt0 : g0 < w.heap.size := by omega
    have y0 := (hb0.cell (p := ⟨g0, off, none⟩) hlt0).trans a0
    have y1 := (hb0.cell (p := ⟨g0, off + 1, none⟩) hlt0).trans a1
    have y2 := (hb0.cell (p := ⟨g0, off + 2, none⟩) hlt0).trans a2
    have y3 := (hb0.cell (p := ⟨g0, off + 3, none⟩) hlt0).trans a3
    have HF := Lib.hid (show (Pt.as s a).of ss vs = (a).of ss vs from rfl)
    generalize (a).of ss vs = r1 at *
    generalize (Pt.as s a).of ss vs = R at *
    clear ia hA hN hV hf a5 hlen a0 a1 a2 a3
    generalize a.ex = x at *
    go_enter Tryz.func36, Tryz.ntmps36
    go_wp2_with fail
    refine HI.out.mono ?_
    rintro e w1 ⟨rfl, hb1⟩
    go_wp2_with fail
    go_ret2
    exact ⟨by rw [HF.out]; rfl, hb0.trans (hb1.mono hb0.size)⟩
  | two s a b ia ib =>
    intro hf A c B w hA hc hB hN hV
    simp only [Pt.fine, Bool.and_eq_true] at hf
    simp only [Pt.ex, Ex.kind, Ex.n, Ex.s, Ex.kids, List.length_cons, List.length_nil, Nat.zero_add, Nat.reduceAdd] at hA hc ⊢
    obtain ⟨g0, off, D0, cc0, e0, hg0, kid0⟩ := hA.at_ (j := 0) (by simp)
    obtain ⟨g1, off', D1, cc1, e1, hg1, kid1⟩ := hA.at_ (j := 1) (by simp)
    rw [e0] at e1
    injection e1 with e1
    injection e1 with ea eb
    subst ea eb e0
    obtain ⟨a0, a1, a2, a3, a4, a5⟩ := kid0
    obtain ⟨b0, b1, b2, b3, b4, b5⟩ := kid1
    simp only [List.getElem_cons_zero, List.getElem_cons_succ, Nat.zero_mul, Nat.add_zero, Nat.one_mul, Nat.add_assoc, Nat.reduceAdd] at a0 a1 a2 a3 a4 a5 b0 b1 b2 b3 b4 b5
    obtain ⟨W0, hW0⟩ : ∃ W0, W0 = w.alloc (.cells #[.int .i64 3, .int .i64 0, .string s, .slice (some ⟨g0, off, none⟩) 2 c] 34) := ⟨_, rfl⟩
    have hb0 : Below w.heap.size w W0 := by rw [hW0]; exact (Below.refl _ w).alloc (Nat.le_refl _) _
    have hs0 : w.heap.size < W0.heap.size := by rw [hW0]; simp
    have hlt0 : g0 < w.heap.size := by omega
    have hgl : g0 < W0.heap.size := by omega
    have hbL : Below w.heap.size w (w.alloc (.cells #[.int .i64 3, .int .i64 0, .string s, .slice (some ⟨g0, off, none⟩) 2 c] 34)) := (Below.refl _ w).alloc (Nat.le_refl _) _
    have y0 := (hbL.cell (p := ⟨g0, off, none⟩) hlt0).trans a0
    have y1 := (hbL.cell (p := ⟨g0, off + 1, none⟩) hlt0).trans a1
    have y2 := (hbL.cell (p := ⟨g0, off + 2, none⟩) hlt0).trans a2
    have y3 := (hbL.cell (p := ⟨g0, off + 3, none⟩) hlt0).trans a3
    clear hbL
    have z0 := (hb0.cell (p := ⟨g0, off + 4, none⟩) hlt0).trans b0
    have z1 := (hb0.cell (p := ⟨g0, off + 5, none⟩) hlt0).trans b1
    have z2 := (hb0.cell (p := ⟨g0, off + 6, none⟩) hlt0).trans b2
    have z3 := (hb0.cell (p := ⟨g0, off + 7, none⟩) hlt0).trans b3
    have x2 : W0.cell? ⟨w.heap.size, 2, none⟩ = some (.string s) := by rw [hW0]; exact cell_made4 w _ _ 2 _ rfl
    have x3 : W0.cell? ⟨w.heap.size, 3, none⟩ = some (.slice (some ⟨g0, off, none⟩) 2 c) := by rw [hW0]; exact cell_made4 w _ _ 3 _ rfl
    have HI := Lib.hid (ia hf.2.1 D0 cc0 B W0 (a5.keep (hb0.mono hB)) a4 (Nat.le_trans hB hb0.size) (hN.below hb0) (hV.below hb0))
    have HJ := Lib.hid (fun (W : World) (hW : Below W0.heap.size W0 W) => ib hf.2.2 D1 cc1 B W ((b5.keep (hb0.mono hB)).keep (hW.mono (Nat.le_trans hB hb0.size))) b4 (Nat.le_trans (Nat.le_trans hB hb0.size) hW.size) ((hN.below hb0).below hW) ((hV.below hb0).below hW))
    have HF := Lib.hid (show (Pt.two s a b).of ss vs = match (a).of ss vs, (b).of ss vs with | some x, some y => some (twoN s x y) | _, _ => none from rfl)
    have HBa := Lib.hid (Pt.of_bounds ss vs a hf.2.1)
    have HBb := Lib.hid (Pt.of_bounds ss vs b hf.2.2)
    generalize (a).of ss vs = r1 at *
    generalize (b).of ss vs = r2 at *
    generalize (Pt.two s a b).of ss vs = R at *
    clear ia ib hA hN hV hf a5 b5 hlen a0 a1 a2 a3 b0 b1 b2 b3
    generalize a.ex = x at *
    generalize b.ex = y at *
    go_enter Tryz.func36, Tryz.ntmps36
    go_wp2_with fail
    rw [← hW0]
    clear hW0
    refine HI.out.mono ?_
    rintro e w1 ⟨rfl, hb1⟩
    have s2 := (hb1.cell (p := ⟨w.heap.size, 2, none⟩) hs0).trans x2
    have s3 := (hb1.cell (p := ⟨w.heap.size, 3, none⟩) hs0).trans x3
    have t0 := (hb1.cell (p := ⟨g0, off + 4, none⟩) hgl).trans z0
    have t1 := (hb1.cell (p := ⟨g0, off + 5, none⟩) hgl).trans z1
    have t2 := (hb1.cell (p := ⟨g0, off + 6, none⟩) hgl).trans z2
    have t3 := (hb1.cell (p := ⟨g0, off + 7, none⟩) hgl).trans z3
    have HJ1 := Lib.hid (HJ.out w1 hb1)
    clear y0 y1 y2 y3 z0 z1 z2 z3 x3
    go_wp2_with fail
    refine HJ1.out.mono ?_
    rintro e w2 ⟨rfl, hb2'⟩
    have hb2 := hb1.trans (hb2'.mono hb1.size)
    have v2 := (hb2.cell (p := ⟨w.heap.size, 2, none⟩) hs0).trans x2
    have HX := Lib.hid (hb0.trans (hb2.mono hb0.size))
    clear s2 s3 t0 t1 t2 t3 hb2' HJ
    rcases r1 with _ | x1
    · go_wp2_with fail
      go_ret2
      exact ⟨by rw [HF.out]; rfl, HX.out⟩
    · rcases r2 with _ | y1
      · go_wp2_with fail
        go_ret2
        exact ⟨by rw [HF.out]; rfl, HX.out⟩
      · have hx := HBa.out x1 rfl
        have hy := HBb.out y1 rfl
        have HR := Lib.hid (l4Two_any s x1 y1 w2 hx.1 hx.2 hy.1 hy.2)
        simp only [Option.getD_some, Option.isSome_some]
        go_wp2_with fail
        refine HR.out.mono ?_
        rintro e w3 ⟨rfl, rfl⟩
        go_wp2_with fail
        go_ret2
        exact ⟨by rw [HF.out]; rfl, HX.out⟩

set_option maxRecDepth 100000 in
set_option maxHeartbeats 2000000 in
theorem l4TypeOf_any {An Av : Option Addr} {cn cv : Nat} {ss : List ByteArray} {vs : List ByteArray} (hl : ss.length ≤ 2 ^ 40) (hlen : ss.length = vs.length) (p : Pt) : p.fine = true → ∀ (A : Option Addr) (c B : Nat) (w : World), KidsAt w B A p.ex.kids → p.ex.kids.length ≤ c → B ≤ w.heap.size → SlIs w An (ss.map strV) → SlIs w Av (vs.map strV) →
    Calls Tryz.prog 43 #[.agg #[.int .i64 p.ex.kind, .int .i64 p.ex.n, .string p.ex.s, .slice A p.ex.kids.length c], .slice An ss.length cn, .slice Av vs.length cv] w (Types (p.typ ss vs) w) := by
  induction p with
  | num n =>
    intro _ A c B w _ hc _ _ _
    simp only [Pt.ex, Ex.kind, Ex.n, Ex.s, Ex.kids, List.length_nil] at hc ⊢
    go_enter Tryz.func43, Tryz.ntmps43
    go_wp2_with fail
    go_ret
    exact ⟨rfl, (Below.refl _ w).alloc (Nat.le_refl _) _⟩
  | name s =>
    intro hf A c B w _ hc _ hN hV
    simp only [Pt.ex, Ex.kind, Ex.n, Ex.s, Ex.kids, List.length_nil] at hc ⊢
    have HF := Lib.hid (show (Pt.name s).typ ss vs = match lastOf ss s with | some i => vs.getD i ByteArray.empty | none => ByteArray.empty from rfl)
    have HN := Lib.hid (fun W (hW : Below w.heap.size w W) => l4Find_any An cn ss s W hl (hN.below hW))
    have hb0 : Below w.heap.size w (w.alloc (.cells #[.int .i64 2, .int .i64 0, .string s, .slice A 0 c] 34)) := (Below.refl _ w).alloc (Nat.le_refl _) _
    cases hlast : lastOf ss s with
    | none =>
      rw [hlast] at HF
      have hix : lastIx ss s = -1 := by unfold lastIx; rw [hlast]
      rw [hix] at HN
      clear hlast hix hN hV hf hlen
      go_enter Tryz.func43, Tryz.ntmps43
      go_wp2_with fail
      refine (HN.out _ hb0).mono ?_
      rintro e w1 ⟨rfl, rfl⟩
      go_wp2_with fail
      go_ret
      exact ⟨by rw [HF.out]; rfl, hb0⟩
    | some i =>
      rw [hlast] at HF
      have hix : lastIx ss s = (i : Int) := by unfold lastIx; rw [hlast]
      rw [hix] at HN
      have hil : i < vs.length := by have := findL_lt hlast; omega
      obtain ⟨g, off, rfl, hg, hcg⟩ := hV.at_ (k := i) (by simpa using hil)
      simp only [List.getElem_map, strV] at hcg
      have hcg0 := (hb0.cell (p := ⟨g, off + i, none⟩) hg).trans hcg
      have HG := Lib.hid (show vs.getD i ByteArray.empty = vs[i] by simp [List.getD, hil])
      generalize vs[i] = v at *
      have HF2 := Lib.hid (show (Pt.name s).typ ss vs = v by rw [HF.out]; exact HG.out)
      have q1 : decide ((i : Int) < 0) = false := by simp
      have q2 : (i : Int) < (vs.length : Int) := by omega
      clear hlast hix hN hV hf hlen hcg
      go_enter Tryz.func43, Tryz.ntmps43
      go_wp2_with fail
      refine (HN.out _ hb0).mono ?_
      rintro e w1 ⟨rfl, rfl⟩
      go_wp2_with fail
      go_ret
      exact ⟨by rw [HF2.out]; rfl, hb0⟩
  | «as» s a ia =>
    intro hf A c B w hA hc hB hN hV
    simp only [Pt.fine, Bool.and_eq_true] at hf
    simp only [Pt.ex, Ex.kind, Ex.n, Ex.s, Ex.kids, List.length_cons, List.length_nil, Nat.zero_add] at hA hc ⊢
    obtain ⟨g0, off, D0, cc0, e0, hg0, kid0⟩ := hA.at_ (j := 0) (by simp)
    subst e0
    obtain ⟨a0, a1, a2, a3, a4, a5⟩ := kid0
    simp only [List.getElem_cons_zero, Nat.zero_mul, Nat.add_zero] at a0 a1 a2 a3 a4 a5
    have hb0 : Below w.heap.size w (w.alloc (.cells #[.int .i64 4, .int .i64 0, .string s, .slice (some ⟨g0, off, none⟩) 1 c] 34)) := (Below.refl _ w).alloc (Nat.le_refl _) _
    have HI := Lib.hid (ia hf.2 D0 cc0 B _ (a5.keep (hb0.mono hB)) a4 (Nat.le_trans hB hb0.size) (hN.below hb0) (hV.below hb0))
    have hlt0 : g0 < w.heap.size := by omega
    have y0 := (hb0.cell (p := ⟨g0, off, none⟩) hlt0).trans a0
    have y1 := (hb0.cell (p := ⟨g0, off + 1, none⟩) hlt0).trans a1
    have y2 := (hb0.cell (p := ⟨g0, off + 2, none⟩) hlt0).trans a2
    have y3 := (hb0.cell (p := ⟨g0, off + 3, none⟩) hlt0).trans a3
    have HF := Lib.hid (show (Pt.as s a).typ ss vs = if (a).typ ss vs = ByteArray.empty then ByteArray.empty else s from rfl)
    generalize (a).typ ss vs = r1 at *
    generalize (Pt.as s a).typ ss vs = R at *
    clear ia hA hN hV hf a5 hlen a0 a1 a2 a3
    generalize a.ex = x at *
    go_enter Tryz.func43, Tryz.ntmps43
    go_wp2_with fail
    refine HI.out.mono ?_
    rintro e w1 ⟨rfl, hb1⟩
    have c2 := (hb1.cell (p := ⟨w.heap.size, 2, none⟩) (by simp)).trans (cell_made4 w _ _ 2 _ rfl)
    by_cases hr : r1 = ByteArray.empty
    · subst hr
      go_wp2_with fail
      go_ret
      exact ⟨by rw [HF.out]; rfl, hb0.trans (hb1.mono hb0.size)⟩
    · have q : (r1.toList == []) = false := by rw [isS, decide_eq_false_iff_not]; exact hr
      have HR := Lib.hid hr
      clear hr
      go_wp2_with fail
      go_ret
      exact ⟨by rw [HF.out, if_neg HR.out]; rfl, hb0.trans (hb1.mono hb0.size)⟩
  | two s a b ia ib =>
    intro hf A c B w hA hc hB hN hV
    simp only [Pt.fine, Bool.and_eq_true] at hf
    simp only [Pt.ex, Ex.kind, Ex.n, Ex.s, Ex.kids, List.length_cons, List.length_nil, Nat.zero_add, Nat.reduceAdd] at hA hc ⊢
    obtain ⟨g0, off, D0, cc0, e0, hg0, kid0⟩ := hA.at_ (j := 0) (by simp)
    obtain ⟨g1, off', D1, cc1, e1, hg1, kid1⟩ := hA.at_ (j := 1) (by simp)
    rw [e0] at e1
    injection e1 with e1
    injection e1 with ea eb
    subst ea eb e0
    obtain ⟨a0, a1, a2, a3, a4, a5⟩ := kid0
    obtain ⟨b0, b1, b2, b3, b4, b5⟩ := kid1
    simp only [List.getElem_cons_zero, List.getElem_cons_succ, Nat.zero_mul, Nat.add_zero, Nat.one_mul, Nat.add_assoc, Nat.reduceAdd] at a0 a1 a2 a3 a4 a5 b0 b1 b2 b3 b4 b5
    obtain ⟨W0, hW0⟩ : ∃ W0, W0 = w.alloc (.cells #[.int .i64 3, .int .i64 0, .string s, .slice (some ⟨g0, off, none⟩) 2 c] 34) := ⟨_, rfl⟩
    have hb0 : Below w.heap.size w W0 := by rw [hW0]; exact (Below.refl _ w).alloc (Nat.le_refl _) _
    have hs0 : w.heap.size < W0.heap.size := by rw [hW0]; simp
    have hlt0 : g0 < w.heap.size := by omega
    have hgl : g0 < W0.heap.size := by omega
    have hbL : Below w.heap.size w (w.alloc (.cells #[.int .i64 3, .int .i64 0, .string s, .slice (some ⟨g0, off, none⟩) 2 c] 34)) := (Below.refl _ w).alloc (Nat.le_refl _) _
    have y0 := (hbL.cell (p := ⟨g0, off, none⟩) hlt0).trans a0
    have y1 := (hbL.cell (p := ⟨g0, off + 1, none⟩) hlt0).trans a1
    have y2 := (hbL.cell (p := ⟨g0, off + 2, none⟩) hlt0).trans a2
    have y3 := (hbL.cell (p := ⟨g0, off + 3, none⟩) hlt0).trans a3
    clear hbL
    have z0 := (hb0.cell (p := ⟨g0, off + 4, none⟩) hlt0).trans b0
    have z1 := (hb0.cell (p := ⟨g0, off + 5, none⟩) hlt0).trans b1
    have z2 := (hb0.cell (p := ⟨g0, off + 6, none⟩) hlt0).trans b2
    have z3 := (hb0.cell (p := ⟨g0, off + 7, none⟩) hlt0).trans b3
    have x2 : W0.cell? ⟨w.heap.size, 2, none⟩ = some (.string s) := by rw [hW0]; exact cell_made4 w _ _ 2 _ rfl
    have x3 : W0.cell? ⟨w.heap.size, 3, none⟩ = some (.slice (some ⟨g0, off, none⟩) 2 c) := by rw [hW0]; exact cell_made4 w _ _ 3 _ rfl
    have HI := Lib.hid (ia hf.2.1 D0 cc0 B W0 (a5.keep (hb0.mono hB)) a4 (Nat.le_trans hB hb0.size) (hN.below hb0) (hV.below hb0))
    have HJ := Lib.hid (fun (W : World) (hW : Below W0.heap.size W0 W) => ib hf.2.2 D1 cc1 B W ((b5.keep (hb0.mono hB)).keep (hW.mono (Nat.le_trans hB hb0.size))) b4 (Nat.le_trans (Nat.le_trans hB hb0.size) hW.size) ((hN.below hb0).below hW) ((hV.below hb0).below hW))
    have HF := Lib.hid (show (Pt.two s a b).typ ss vs = if (a).typ ss vs = sInt ∧ (b).typ ss vs = sInt then (if s = sLess then sBool else sInt) else ByteArray.empty from rfl)

    generalize (a).typ ss vs = r1 at *
    generalize (b).typ ss vs = r2 at *
    generalize (Pt.two s a b).typ ss vs = R at *
    clear ia ib hA hN hV hf a5 b5 hlen a0 a1 a2 a3 b0 b1 b2 b3
    generalize a.ex = x at *
    generalize b.ex = y at *
    go_enter Tryz.func43, Tryz.ntmps43
    go_wp2_with fail
    rw [← hW0]
    clear hW0
    refine HI.out.mono ?_
    rintro e w1 ⟨rfl, hb1⟩
    have s2 := (hb1.cell (p := ⟨w.heap.size, 2, none⟩) hs0).trans x2
    have s3 := (hb1.cell (p := ⟨w.heap.size, 3, none⟩) hs0).trans x3
    have t0 := (hb1.cell (p := ⟨g0, off + 4, none⟩) hgl).trans z0
    have t1 := (hb1.cell (p := ⟨g0, off + 5, none⟩) hgl).trans z1
    have t2 := (hb1.cell (p := ⟨g0, off + 6, none⟩) hgl).trans z2
    have t3 := (hb1.cell (p := ⟨g0, off + 7, none⟩) hgl).trans z3
    have HJ1 := Lib.hid (HJ.out w1 hb1)
    clear y0 y1 y2 y3 z0 z1 z2 z3 x3
    by_cases h1 : r1 = sInt
    · have q1 : (r1.toList == [105, 110, 116]) = true := by rw [isS, decide_eq_true_eq]; exact h1
      have HH1 := Lib.hid h1
      clear h1
      go_wp2_with fail
      refine HJ1.out.mono ?_
      rintro e w2 ⟨rfl, hb2'⟩
      have hb2 := hb1.trans (hb2'.mono hb1.size)
      have v2 := (hb2.cell (p := ⟨w.heap.size, 2, none⟩) hs0).trans x2
      have HX := Lib.hid (hb0.trans (hb2.mono hb0.size))
      clear s2 s3 t0 t1 t2 t3 hb2' HJ
      by_cases h2 : r2 = sInt
      · have q2 : (r2.toList == [105, 110, 116]) = true := by rw [isS, decide_eq_true_eq]; exact h2
        have HH2 := Lib.hid h2
        clear h2
        by_cases h3 : s = sLess
        · have q3 : (s.toList == [60]) = true := by rw [isS, decide_eq_true_eq]; exact h3
          have HH3 := Lib.hid h3
          clear h3
          go_wp2_with fail
          go_ret
          exact ⟨by rw [HF.out, if_pos ⟨HH1.out, HH2.out⟩, if_pos HH3.out]; rfl, HX.out⟩
        · have q3 : (s.toList == [60]) = false := by rw [isS, decide_eq_false_iff_not]; exact h3
          have HH3 := Lib.hid h3
          clear h3
          go_wp2_with fail
          go_ret
          exact ⟨by rw [HF.out, if_pos ⟨HH1.out, HH2.out⟩, if_neg HH3.out]; rfl, HX.out⟩
      · have q2 : (r2.toList == [105, 110, 116]) = false := by rw [isS, decide_eq_false_iff_not]; exact h2
        have HH2 := Lib.hid h2
        clear h2
        go_wp2_with fail
        go_ret
        exact ⟨by rw [HF.out, if_neg (fun h => HH2.out h.2)]; rfl, HX.out⟩
    · have q1 : (r1.toList == [105, 110, 116]) = false := by rw [isS, decide_eq_false_iff_not]; exact h1
      have HH1 := Lib.hid h1
      clear h1
      go_wp2_with fail
      go_ret
      exact ⟨by rw [HF.out, if_neg (fun h => HH1.out h.1)]; rfl, hb0.trans (hb1.mono hb0.size)⟩
end Go.Proofs.YtabignplhkbcpaaGreatDoor
