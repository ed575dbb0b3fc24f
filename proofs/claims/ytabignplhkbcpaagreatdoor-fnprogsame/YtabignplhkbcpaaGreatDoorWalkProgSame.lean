/-
  'laws.FnProgSame' returns true at every two codes: with a line that tells a number put in twice, a drawn program says the same, and the line that has not its types stands where it stood.
  Conditions: the library's variables and the program's own error hold what their initialisers lay (tied to the program's text); every two lists of bytes.
-/
import Derived.Test.YtabignplhkbcpaaGreatDoorGW
import Derived.Test.YtabignplhkbcpaaGreatDoorGY
import Derived.Test.YtabignplhkbcpaaGreatDoorSpecRun
import Derived.Test.YtabignplhkbcpaaGreatDoorIsErr
import Derived.WalkKit
import Derived.ProofKit
import Derived.OpenShut
import Derived.ShutString
import Derived.ChangeOld
import Derived.Below
import Derived.Lib.SmallJoins
import Derived.SliceStrings
namespace Go.Proofs.YtabignplhkbcpaaGreatDoor.fnProgSame
open Go.ChangeShapes Go.WideShapes Go.ChangeAt Go.RowKit Go.Joins
open Go.ChangeMaps (open_string shut_string)


theorem says_len {ss : List ByteArray} {vs : List Int} {d : De} {ns : List Int} (h : saysD ss vs d = some ns) : ns.length ≤ 1 := by
  cases d with
  | noD => simp only [saysD, Option.some.injEq] at h; subst h; simp
  | letD n t p =>
    simp only [saysD, Option.map_eq_some_iff] at h
    obtain ⟨_, _, rfl⟩ := h
    simp
  | sayD p =>
    simp only [saysD, Option.map_eq_some_iff] at h
    obtain ⟨_, _, rfl⟩ := h
    simp
  | whenD p q =>
    simp only [saysD, Option.bind_eq_some_iff, Option.map_eq_some_iff] at h
    obtain ⟨_, _, _, _, rfl⟩ := h
    split <;> simp
theorem runFrom_len (ds : List De) : ∀ (ss : List ByteArray) (vs out : List Int), (runFrom ds ss vs out).1.length ≤ out.length + ds.length := by
  induction ds with
  | nil => intro ss vs out; rw [runFrom]; simp
  | cons d ds ih =>
    intro ss vs out
    rw [runFrom]
    cases h : saysD ss vs d with
    | none => simp
    | some ns =>
      have h1 := ih (toldS ss d) (toldI ss vs d) (out ++ ns)
      have h2 := says_len h
      rw [List.length_append] at h1
      rw [List.length_cons]
      show (runFrom ds (toldS ss d) (toldI ss vs d) (out ++ ns)).1.length ≤ _
      omega
theorem runP_len (xs : List St) : (runP xs).1.length ≤ 16 := by
  unfold runP
  cases h : doP xs with
  | none => simp
  | some ds =>
    have h1 := doP_some h
    have h2 := (doP_fine h).1
    have h3 := runFrom_len ds [] [] []
    simp only [List.length_nil, Nat.zero_add] at h3
    show (runFrom ds [] [] []).1.length ≤ 16
    omega
theorem bel_allocW {w1 W : World} (h : Below w1.heap.size w1 W) (o : Obj) : Below w1.heap.size w1 (W.alloc o) := h.alloc h.size o
theorem bel_thenW {w1 W W' : World} (h : Below w1.heap.size w1 W) (h2 : Below W.heap.size W W') : Below w1.heap.size w1 W' := h.trans (h2.mono h.size)
theorem wp_namedW {ops : Array Oper} {o : Oper} {a : Act} {Y : World} {K : Act → World → Prop} {Q : Exit → Act → World → Prop} {E : Prop}
    (h : ∀ Z, Z = Y → if Region.wanted o (yielded ops a.tmps) = true then Oper.wp Tryz.prog o a Z K Q else E) : if Region.wanted o (yielded ops a.tmps) = true then Oper.wp Tryz.prog o a Y K Q else E := h Y rfl
theorem stWts_more (xs : List St) (s : St) : stWts (xs ++ [s]) = stWts xs + (s.wt + 1) := by unfold stWts; rw [List.map_append, List.sum_append]; simp
theorem made_one2 (w : World) (a b : Obj) : ((w.alloc a).alloc b).heap[w.heap.size]? = some a := (Below.heap_alloc _ _ _ (by simp)).trans (World.alloc_heap_new w a)
theorem grow_belowW {w W w1 : World} {B sz n : Nat} {t : TypeId} {v : Value} {xs : List Value} (hB : Below B w W) (hn : B ≤ W.heap.size) (hrow : W.ownsRow B t sz v n xs) (hg : W.grownBy w1 v.ownBlock) : Below B w w1 := by
  refine hB.grown hg hn fun j ej => ?_
  rcases hrow.2 with ⟨rfl, _⟩ | ⟨g, cap, cur, rfl, hb, _, _⟩
  · simp [Value.ownBlock] at ej
  · obtain rfl : g = j := by simpa [Value.ownBlock] using ej
    exact hb
theorem keepB {Y Z : World} {n m k c : Nat} {o : Obj} (h : Y.heap[n]? = some o) (hne : n ≠ m) (hg : Y.grownBy Z (Value.slice (some ⟨m, 0, none⟩) k c).ownBlock) : Z.heap[n]? = some o :=
  (hg.block n (Array.getElem?_eq_some_iff.1 h).1 (fun e => hne (by simpa [Value.ownBlock] using e))).trans h
theorem cells_blk {Y : World} {n : Nat} {d : Ld} (h : Y.heap[n]? = some (.cells (ldC d).toArray 36 (0, 0))) : ∀ j u, (rowL [d])[j]? = some u → Y.cell? ⟨n, 0 + j, none⟩ = some u := by
  intro j u hj
  have hcell : Y.cell? ⟨n, j, none⟩ = (ldC d).toArray[j]? := by simp [World.cell?, h]
  rw [Nat.zero_add, hcell, List.getElem?_toArray]
  simpa [rowL] using hj
theorem new_parts {W : World} {B : Nat} {ds : List Ld} {s : St} (hs : s.e.kids = [] ∧ s.t.kids = []) (h : ∀ d ∈ ds, (d.s.e.kids.length ≤ d.c1 ∧ d.s.t.kids.length ≤ d.c2) ∧ KidsU W B d.A1 d.s.e.kids ∧ KidsU W B d.A2 d.s.t.kids) :
    ∀ d ∈ ds ++ [(⟨s, none, none, 0, 0⟩ : Ld)], (d.s.e.kids.length ≤ d.c1 ∧ d.s.t.kids.length ≤ d.c2) ∧ KidsU W B d.A1 d.s.e.kids ∧ KidsU W B d.A2 d.s.t.kids := by
  intro d hd
  rcases List.mem_append.1 hd with hd | hd
  · exact h d hd
  · simp at hd
    subst hd
    rw [hs.1, hs.2]
    exact ⟨⟨Nat.le_refl _, Nat.le_refl _⟩, .nil, .nil⟩
theorem stWts_app (xs ys : List St) : stWts (xs ++ ys) = stWts xs + stWts ys := by unfold stWts; rw [List.map_append, List.sum_append]
theorem stWts_mem : ∀ {xs : List St} {s : St}, s ∈ xs → stWts [s] ≤ stWts xs
  | [], _, h => by cases h
  | x :: xs, s, h => by
    have e : stWts (x :: xs) = stWts [x] + stWts xs := stWts_app [x] xs
    rcases List.mem_cons.1 h with h | h
    · rw [e, h]; omega
    · have := stWts_mem h
      omega
theorem rowL_takes {ds : List Ld} {k j : Nat} {u : Value} (h : (rowL (ds.take k))[j]? = some u) : (rowL ds)[j]? = some u := by
  have e : rowL ds = rowL (ds.take k) ++ rowL (ds.drop k) := by rw [← rowL_app, List.take_append_drop]
  rw [e, List.getElem?_append_left (List.getElem?_eq_some_iff.1 h).1]
  exact h
theorem rowL_drops {ds : List Ld} {k j : Nat} {u : Value} (hk : k ≤ ds.length) (h : (rowL (ds.drop k))[j]? = some u) : (rowL ds)[k * 11 + j]? = some u := by
  have e : rowL ds = rowL (ds.take k) ++ rowL (ds.drop k) := by rw [← rowL_app, List.take_append_drop]
  have hl : (rowL (ds.take k)).length = k * 11 := by rw [rowL_length, List.length_take, Nat.min_eq_left hk]
  rw [e, List.getElem?_append_right (by omega), hl, Nat.add_sub_cancel_left]
  exact h

set_option maxRecDepth 100000 in
set_option maxHeartbeats 8000000 in
theorem walk (A : Option Addr) (len cap : Nat) (B0 : Option Addr) (lenB capB : Nat) (w : World) (h1 : InCode w A len cap) (_ : InCode w B0 lenB capB) (hlaid : LaidW w ∧ ∃ a, LaidN w a) :
    Calls Tryz.prog 9 #[.slice A len cap, .slice B0 lenB capB] w fun r w' => r = .returned (.bool true) ∧ Below w.heap.size w w' := by
  obtain ⟨hL, ad, hN⟩ := hlaid
  by_cases hl1 : 1048576 < len
  · have q1 : decide ((1048576 : Int) < (len : Int)) = true := by simp; omega
    clear h1
    go_enter Tryz.func9, Tryz.ntmps9
    go_wp2_with fail
    go_ret
    exact ⟨rfl, Below.refl _ _⟩
  have q1 : decide ((1048576 : Int) < (len : Int)) = false := by simp; omega
  by_cases hl2 : 1048576 < lenB
  · have q2 : decide ((1048576 : Int) < (lenB : Int)) = true := by simp; omega
    clear h1
    go_enter Tryz.func9, Tryz.ntmps9
    go_wp2_with fail
    go_ret
    exact ⟨rfl, Below.refl _ _⟩
  have q2 : decide ((1048576 : Int) < (lenB : Int)) = false := by simp; omega
  have HD := Lib.hid (drawProgType_any A len cap w h1)
  have HL := Lib.hid hL
  have HLN := Lib.hid hN
  clear h1 hL hN
  go_enter Tryz.func9, Tryz.ntmps9
  go_wp2_with fail
  refine HD.out.mono ?_
  rintro r w1 ⟨A2, c2, xs, rfl, hc2, hX, hn17, hwt, hb1⟩
  have HPR := Lib.hid (fun (W : World) (hW : Below w1.heap.size w1 W) (ys : List St) (A' : Option Addr) (c' : Nat) (hY : LinesU W W.heap.size A' ys) (hwy : stWts ys ≤ 2 ^ 29) => progRun_any ys A' c' W.heap.size ad W hY (Nat.le_refl _) hwy (HL.out.below (hb1.trans (hW.mono hb1.size))) (LaidN.below HLN.out (hb1.trans (hW.mono hb1.size))))
  have HPT := Lib.hid (fun (W : World) (hW : Below w1.heap.size w1 W) (ys : List St) (A' : Option Addr) (c' : Nat) (hY : LinesU W W.heap.size A' ys) (hwy : stWts ys ≤ 2 ^ 29) => progType_any ys A' c' W.heap.size ad W hY (Nat.le_refl _) hwy (HL.out.below (hb1.trans (hW.mono hb1.size))) (LaidN.below HLN.out (hb1.trans (hW.mono hb1.size))))
  have HXS := Lib.hid (fun (W : World) (hW : Below w1.heap.size w1 W) => (hX.keep hW).wide hW.size)
  have HWT2 := Lib.hid (show stWts xs ≤ 100000 by omega)
  have HP0 := Lib.hid (HPR.out w1 (Below.refl _ _) xs A2 c2 hX (by omega))
  have HPT0 := Lib.hid (fun (W : World) (hW : Below w1.heap.size w1 W) => HPT.out W hW xs A2 c2 (HXS.out W hW) (by have := HWT2.out; omega))
  have HSR := Lib.hid (fun (W : World) (hW : Below w1.heap.size w1 W) => specProgRun_any xs A2 c2 w1.heap.size W (hX.keep hW).lines hW.size (by omega))
  have HSO := Lib.hid (fun (W : World) (hW : Below w1.heap.size w1 W) => specProgOk_any xs A2 c2 w1.heap.size W (hX.keep hW).lines hW.size (by omega))
  unfold GivesI at HPR HP0
  obtain ⟨ds, hds, hsl, hkids⟩ := hX.ld (Nat.le_refl _)
  have HDS := Lib.hid hds
  have HSL := Lib.hid hsl
  have HKD := Lib.hid hkids
  have hdl : ds.length = xs.length := by rw [← hds, List.length_map]
  have HTW := Lib.hid (fun (m : Nat) (hm : m < xs.length) => twice_case (xs := xs) (m := m) hm)
  have HPO := Lib.hid (fun (h : (doP xs).isSome = true) => show 1 ≤ xs.length by obtain ⟨d, hd⟩ := Option.isSome_iff_exists.1 h; exact (doP_some hd).2.1)
  have HTR := Lib.hid (fun (h : (doP xs).isSome = true) => show -1 ≤ typeP xs ∧ typeP xs < (xs.length : Int) by obtain ⟨d, hd⟩ := Option.isSome_iff_exists.1 h; exact typeP_range hd)
  have hrl := runP_len xs
  generalize hRR : runP xs = RR at *
  obtain ⟨R, ok⟩ := RR
  generalize hTT : typeP xs = T at *
  generalize hdo : (doP xs).isSome = dd at *
  clear hX hRR hTT hdo HD hds hsl hkids hwt
  simp only at HP0 HSR hrl
  go_wp2_with fail
  refine HP0.out.mono ?_
  rintro r w2 ⟨v, rfl, hv, hb2⟩
  obtain ⟨Ao, co, rfl, _⟩ := own_slice hv
  have HO2 := Lib.hid (SlIs.own hv)
  clear hv HP0
  go_wp2_with fail
  refine (HSR.out w2 hb2).mono ?_
  rintro r w3 ⟨v, bb, rfl, hrow, hb3'⟩
  have hb3 := hb2.trans (hb3'.mono hb2.size)
  have HO3 := Lib.hid (HO2.out.below hb3')
  obtain ⟨Aw, cw, rfl, _, _⟩ := hrow.slice
  rw [List.length_map]
  have q3 : (ok != ok) = false := by simp
  have q4 : (ok == ok) = true := by simp
  clear hrow HSR HO2
  go_wp2_with fail
  refine (HSO.out w3 hb3).mono ?_
  rintro r w4 ⟨rfl, hb4'⟩
  have hb4 := hb3.trans (hb4'.mono hb3.size)
  have HO4 := Lib.hid (HO3.out.below hb4')
  clear HO3
  cases dd
  · go_wp2_with fail
    go_ret
    exact ⟨rfl, hb1.trans (hb4.mono hb1.size)⟩
  by_cases h16 : 16 ≤ xs.length
  · have g1 : decide ((xs.length : Int) ≥ 16) = true := decide_eq_true (by omega)
    go_wp2_with fail
    go_ret
    exact ⟨rfl, hb1.trans (hb4.mono hb1.size)⟩
  have g1 : decide ((xs.length : Int) ≥ 16) = false := decide_eq_false (by omega)
  have hpos := HPO.out (by trivial)
  have htr := HTR.out (by trivial)
  clear HPO HTR HSO
  obtain ⟨g, off, rfl, hgw, hce⟩ : ∃ g off, A2 = some ⟨g, off, none⟩ ∧ g < w1.heap.size ∧ ∀ j u, (rowL ds)[j]? = some u → w1.cell? ⟨g, off + j, none⟩ = some u := by
    rcases HSL.out with h | h
    · have := rowL_length ds; rw [h] at this; simp at this; omega
    · exact h
  have HCE := Lib.hid (fun (W : World) (h : Below w1.heap.size w1 W) => show ∀ j u, (rowL ds)[j]? = some u → W.cell? ⟨g, off + j, none⟩ = some u from fun j u hu => (h.cell (p := ⟨g, off + j, none⟩) hgw).trans (hce j u hu))
  clear hce HSL
  obtain ⟨m, hm⟩ : ∃ m, m = lenB % xs.length := ⟨_, rfl⟩
  have e1 : (lenB : Int) % (xs.length : Int) = (m : Int) := by rw [hm]; omega
  have hmod : m < xs.length := by rw [hm]; exact Nat.mod_lt lenB (by omega)
  have e2 : IntKind.i64.wrap ((m : Int) + 1) = (m : Int) + 1 := IntWalk.i64_in _ (by omega)
  have e3 : (xs.length : Int) ≠ 0 := by omega
  have hmd : m < ds.length := by omega
  have HX := Lib.hid (show xs[m] = ds[m].s by have := HDS.out; subst this; simp)
  have HTM := Lib.hid (HTW.out m hmod (by omega) (by trivial))
  rw [HX.out] at HTM
  have HC := Lib.hid (fun (W : World) (h : Below w1.heap.size w1 W) (i : Nat) (hi : i < 11) => show W.cell? ⟨g, off + m * 11 + i, none⟩ = (ldC ds[m])[i]? by rw [Nat.add_assoc]; exact (HCE.out W h (m * 11 + i) _ ((rowL_get ds m hmd i hi).trans (List.getElem?_eq_getElem (by exact hi)))).trans (List.getElem?_eq_getElem (by exact hi)).symm)
  obtain ⟨D, hD⟩ : ∃ D, D = ds[m] := ⟨_, rfl⟩
  rw [← hD] at HTM HX HC
  have hc0 : w4.cell? ⟨g, off + m * 11, none⟩ = some (.int .i64 D.s.kind) := HC.out w4 hb4 0 (by omega)
  have hc3 : w4.cell? ⟨g, off + m * 11 + 3, none⟩ = some (.int .i64 D.s.e.kind) := HC.out w4 hb4 3 (by omega)
  have hx1 : (m : Int) < (xs.length : Int) := by omega
  have HDm := Lib.hid hD
  clear hm HTW hD
  by_cases hk : D.s.kind = 1
  · by_cases he : D.s.e.kind = 1
    · have HK := Lib.hid (HTM.out hk he)
      rw [hk] at hc0
      rw [he] at hc3
      clear hk he HTM
      have K1 := Lib.hid (fun (W : World) (h : Below w4.heap.size w4 W) => show W.cell? ⟨g, off + m * 11, none⟩ = some (.int .i64 D.s.kind) ∧ W.cell? ⟨g, off + m * 11 + 1, none⟩ = some (.string D.s.name) ∧ W.cell? ⟨g, off + m * 11 + 2, none⟩ = some (.string D.s.typ) ∧ W.cell? ⟨g, off + m * 11 + 3, none⟩ = some (.int .i64 D.s.e.kind) ∧ W.cell? ⟨g, off + m * 11 + 4, none⟩ = some (.int .i64 D.s.e.n) ∧ W.cell? ⟨g, off + m * 11 + 5, none⟩ = some (.string D.s.e.s) ∧ W.cell? ⟨g, off + m * 11 + 6, none⟩ = some (.slice D.A1 D.s.e.kids.length D.c1) ∧ W.cell? ⟨g, off + m * 11 + 7, none⟩ = some (.int .i64 D.s.t.kind) ∧ W.cell? ⟨g, off + m * 11 + 8, none⟩ = some (.int .i64 D.s.t.n) ∧ W.cell? ⟨g, off + m * 11 + 9, none⟩ = some (.string D.s.t.s) ∧ W.cell? ⟨g, off + m * 11 + 10, none⟩ = some (.slice D.A2 D.s.t.kids.length D.c2) from ⟨HC.out W (hb4.trans (h.mono hb4.size)) 0 (by omega), HC.out W (hb4.trans (h.mono hb4.size)) 1 (by omega), HC.out W (hb4.trans (h.mono hb4.size)) 2 (by omega), HC.out W (hb4.trans (h.mono hb4.size)) 3 (by omega), HC.out W (hb4.trans (h.mono hb4.size)) 4 (by omega), HC.out W (hb4.trans (h.mono hb4.size)) 5 (by omega), HC.out W (hb4.trans (h.mono hb4.size)) 6 (by omega), HC.out W (hb4.trans (h.mono hb4.size)) 7 (by omega), HC.out W (hb4.trans (h.mono hb4.size)) 8 (by omega), HC.out W (hb4.trans (h.mono hb4.size)) 9 (by omega), HC.out W (hb4.trans (h.mono hb4.size)) 10 (by omega)⟩)
      have HCT := Lib.hid (fun (W : World) (h : Below w4.heap.size w4 W) => show ∀ j u, (rowL (ds.take (m + 1)))[j]? = some u → W.cell? ⟨g, off + j, none⟩ = some u from fun j u hu => HCE.out W (hb4.trans (h.mono hb4.size)) j u (rowL_takes hu))
      obtain ⟨off3, ho3⟩ : ∃ o, o = if c2 = m + 1 then off else off + (m + 1) * 11 := ⟨_, rfl⟩
      have HQ := Lib.hid ho3
      clear ho3
      have HCD := Lib.hid (fun (W : World) (h : Below w4.heap.size w4 W) => show ∀ j u, (rowL (ds.drop (m + 1)))[j]? = some u → W.cell? ⟨g, off3 + j, none⟩ = some u from fun j u hu => by
        by_cases hcm : c2 = m + 1
        · rw [List.drop_eq_nil_of_le (by omega)] at hu
          simp [rowL] at hu
        · have hq := HQ.out
          rw [if_neg hcm] at hq
          rw [hq, Nat.add_assoc]
          exact HCE.out W (hb4.trans (h.mono hb4.size)) _ u (rowL_drops (by omega) hu))
      have hdt : (ds.take (m + 1)).length = m + 1 := by rw [List.length_take]; omega
      have hdt2 : (ds.take (m + 1) ++ [D]).length = m + 1 + 1 := by rw [List.length_append, hdt]; rfl
      have hdd : (ds.drop (m + 1)).length = xs.length - (m + 1) := by rw [List.length_drop]; omega
      have f1 : m + 1 ≤ xs.length := by omega
      have f2 : m + 1 ≤ c2 := by omega
      have f3 : (m : Int) + 1 ≤ (xs.length : Int) := by omega
      have f0 : (0 : Int) ≤ (m : Int) + 1 := by omega
      have f4 : (m : Int) + 1 ≤ (c2 : Int) := by omega
      go_wp2_with fail
      clear hc0 hc3
      go_region_held3 (fun W => W.cell? ⟨g, off + m * 11, none⟩ = some (.int .i64 D.s.kind) ∧ W.cell? ⟨g, off + m * 11 + 1, none⟩ = some (.string D.s.name) ∧ W.cell? ⟨g, off + m * 11 + 2, none⟩ = some (.string D.s.typ) ∧ W.cell? ⟨g, off + m * 11 + 3, none⟩ = some (.int .i64 D.s.e.kind) ∧ W.cell? ⟨g, off + m * 11 + 4, none⟩ = some (.int .i64 D.s.e.n) ∧ W.cell? ⟨g, off + m * 11 + 5, none⟩ = some (.string D.s.e.s) ∧ W.cell? ⟨g, off + m * 11 + 6, none⟩ = some (.slice D.A1 D.s.e.kids.length D.c1) ∧ W.cell? ⟨g, off + m * 11 + 7, none⟩ = some (.int .i64 D.s.t.kind) ∧ W.cell? ⟨g, off + m * 11 + 8, none⟩ = some (.int .i64 D.s.t.n) ∧ W.cell? ⟨g, off + m * 11 + 9, none⟩ = some (.string D.s.t.s) ∧ W.cell? ⟨g, off + m * 11 + 10, none⟩ = some (.slice D.A2 D.s.t.kids.length D.c2))
        (exact K1.out _ (by (with_reducible (first | assumption | exact (Below.refl _ w4).drew | exact (bel_allocW (Below.refl _ w4) _).drew | exact (bel_allocW (bel_allocW (Below.refl _ w4) _) _).drew | exact bel_allocW (by assumption) _ | exact bel_allocW (Below.refl _ w4).drew _ | exact bel_allocW (bel_allocW (Below.refl _ w4).drew _) _ | exact bel_allocW ((bel_allocW (Below.refl _ w4) _).drew) _ | exact (Below.drew (by assumption)) | exact (bel_allocW (by assumption) _).drew))))
        (first | (refine wp_namedW ?_; intro Y hY; have hXY : Below w4.heap.size w4 Y := (by rw [hY]; (with_reducible (first | assumption | exact (Below.refl _ w4).drew | exact (bel_allocW (Below.refl _ w4) _).drew | exact (bel_allocW (bel_allocW (Below.refl _ w4) _) _).drew | exact bel_allocW (by assumption) _ | exact bel_allocW (Below.refl _ w4).drew _ | exact bel_allocW (bel_allocW (Below.refl _ w4).drew _) _ | exact bel_allocW ((bel_allocW (Below.refl _ w4) _).drew) _ | exact (Below.drew (by assumption)) | exact (bel_allocW (by assumption) _).drew))); have hE : Y.heap[w4.heap.size]? = some (.cells #[] 36 (0, 0)) := (by rw [hY]; exact World.alloc_heap_new w4 _); have hB : True := trivial; have hNB : True := trivial; have hyz := hXY.size; clear hY; refine step_appR rfl (.tmp 73) (.tmp 77) rfl w4.heap.size _ 0 [] rfl (by simp [Act.eval]) (owns_at hE (Nat.le_refl _)) g off (m + 1) c2 (ds.take (m + 1)) hdt (HCT.out _ hXY) (by simp [Act.eval]) (by omega) hyz ?_; intro v5 Z5 r5 g5 o5; have HR5 := Lib.hid (show Z5.ownsRow w4.heap.size 36 11 v5 (m + 1) (rowL (ds.take (m + 1))) by simpa using r5); have hbZ : Below w4.heap.size w4 Z5 := grow_belowW hXY hyz (owns_at hE (Nat.le_refl _)) g5; have HB5 := hB; clear r5 g5 o5 hB hNB hE) | (refine wp_namedW ?_; intro Y hY; have hXY : Below w4.heap.size w4 Y := (by rw [hY]; (with_reducible (first | assumption | exact (Below.refl _ w4).drew | exact (bel_allocW (Below.refl _ w4) _).drew | exact (bel_allocW (bel_allocW (Below.refl _ w4) _) _).drew | exact bel_allocW (by assumption) _ | exact bel_allocW (Below.refl _ w4).drew _ | exact bel_allocW (bel_allocW (Below.refl _ w4).drew _) _ | exact bel_allocW ((bel_allocW (Below.refl _ w4) _).drew) _ | exact (Below.drew (by assumption)) | exact (bel_allocW (by assumption) _).drew))); have hE : Y.heap[w4.heap.size]? = some (.cells #[] 36 (0, 0)) := (by rw [hY]; exact made_one2 w4 _ _); have hB : Y.heap[w4.heap.size + 1]? = some (.cells (ldC D).toArray 36 (0, 0)) := (by rw [hY]; exact made_two w4 _ _); have hNB : w4.heap.size + 1 ≠ w4.heap.size := (by omega); have hyz := hXY.size; clear hY; refine step_appR rfl (.tmp 73) (.tmp 77) rfl w4.heap.size _ 0 [] rfl (by simp [Act.eval]) (owns_at hE (Nat.le_refl _)) g off (m + 1) c2 (ds.take (m + 1)) hdt (HCT.out _ hXY) (by simp [Act.eval]) (by omega) hyz ?_; intro v5 Z5 r5 g5 o5; have HR5 := Lib.hid (show Z5.ownsRow w4.heap.size 36 11 v5 (m + 1) (rowL (ds.take (m + 1))) by simpa using r5); have hbZ : Below w4.heap.size w4 Z5 := grow_belowW hXY hyz (owns_at hE (Nat.le_refl _)) g5; have HB5 := Lib.hid (keepB (k := 0) (c := 0) hB hNB g5); clear r5 g5 o5 hB hNB hE) | (refine wp_namedW ?_; intro Y hY; have hXY : Below w4.heap.size w4 Y := (by rw [hY]; (with_reducible (first | assumption | exact (Below.refl _ w4).drew | exact (bel_allocW (Below.refl _ w4) _).drew | exact (bel_allocW (bel_allocW (Below.refl _ w4) _) _).drew | exact bel_allocW (by assumption) _ | exact bel_allocW (Below.refl _ w4).drew _ | exact bel_allocW (bel_allocW (Below.refl _ w4).drew _) _ | exact bel_allocW ((bel_allocW (Below.refl _ w4) _).drew) _ | exact (Below.drew (by assumption)) | exact (bel_allocW (by assumption) _).drew))); have hE : Y.heap[w4.heap.size + 1]? = some (.cells #[] 36 (0, 0)) := (by rw [hY]; exact made_two w4 _ _); have hB : Y.heap[w4.heap.size]? = some (.cells (ldC D).toArray 36 (0, 0)) := (by rw [hY]; exact made_one2 w4 _ _); have hNB : w4.heap.size ≠ w4.heap.size + 1 := (by omega); have hyz := hXY.size; clear hY; refine step_appR rfl (.tmp 73) (.tmp 77) rfl w4.heap.size _ 0 [] rfl (by simp [Act.eval]) (owns_at hE (Nat.le_succ _)) g off (m + 1) c2 (ds.take (m + 1)) hdt (HCT.out _ hXY) (by simp [Act.eval]) (by omega) hyz ?_; intro v5 Z5 r5 g5 o5; have HR5 := Lib.hid (show Z5.ownsRow w4.heap.size 36 11 v5 (m + 1) (rowL (ds.take (m + 1))) by simpa using r5); have hbZ : Below w4.heap.size w4 Z5 := grow_belowW hXY hyz (owns_at hE (Nat.le_succ _)) g5; have HB5 := Lib.hid (keepB (k := 0) (c := 0) hB hNB g5); clear r5 g5 o5 hB hNB hE) | (refine wp_namedW ?_; intro Y2 hY2; have hW2 : Below Z5.heap.size Z5 Y2 := (by rw [hY2]; first | exact (Below.refl _ Z5).alloc (Nat.le_refl _) _ | exact Below.refl _ _); have hC : Y2.heap[Z5.heap.size]? = some (.cells (ldC D).toArray 36 (0, 0)) := (by rw [hY2]; exact World.alloc_heap_new Z5 _); have hX2 := bel_thenW hbZ hW2; have hz2 := hX2.size; clear hY2; refine step_appR rfl (.tmp 78) (.tmp 83) rfl w4.heap.size v5 (m + 1) (ds.take (m + 1)) hdt (by simp [Act.eval]) (own_below HR5.out hW2) Z5.heap.size 0 1 1 [D] rfl (cells_blk hC) (by simp [Act.eval]) (by omega) hz2 ?_; intro v6 Z6 r6 g6 o6; have HR6 := Lib.hid r6; have hbY : Below w4.heap.size w4 Z6 := grow_belowW hX2 hz2 (own_below HR5.out hW2) g6; clear r6 g6 o6 hC) | (refine wp_namedW ?_; intro Y2 hY2; have hW2 : Below Z5.heap.size Z5 Y2 := (by rw [hY2]; first | exact (Below.refl _ Z5).alloc (Nat.le_refl _) _ | exact Below.refl _ _); have hC : Y2.heap[w4.heap.size + 1]? = some (.cells (ldC D).toArray 36 (0, 0)) := (by rw [hY2]; exact HB5.out); have hX2 := bel_thenW hbZ hW2; have hz2 := hX2.size; clear hY2; refine step_appR rfl (.tmp 78) (.tmp 83) rfl w4.heap.size v5 (m + 1) (ds.take (m + 1)) hdt (by simp [Act.eval]) (own_below HR5.out hW2) (w4.heap.size + 1) 0 1 1 [D] rfl (cells_blk hC) (by simp [Act.eval]) (by omega) hz2 ?_; intro v6 Z6 r6 g6 o6; have HR6 := Lib.hid r6; have hbY : Below w4.heap.size w4 Z6 := grow_belowW hX2 hz2 (own_below HR5.out hW2) g6; clear r6 g6 o6 hC) | (refine wp_namedW ?_; intro Y2 hY2; have hW2 : Below Z5.heap.size Z5 Y2 := (by rw [hY2]; first | exact (Below.refl _ Z5).alloc (Nat.le_refl _) _ | exact Below.refl _ _); have hC : Y2.heap[w4.heap.size]? = some (.cells (ldC D).toArray 36 (0, 0)) := (by rw [hY2]; exact HB5.out); have hX2 := bel_thenW hbZ hW2; have hz2 := hX2.size; clear hY2; refine step_appR rfl (.tmp 78) (.tmp 83) rfl w4.heap.size v5 (m + 1) (ds.take (m + 1)) hdt (by simp [Act.eval]) (own_below HR5.out hW2) w4.heap.size 0 1 1 [D] rfl (cells_blk hC) (by simp [Act.eval]) (by omega) hz2 ?_; intro v6 Z6 r6 g6 o6; have HR6 := Lib.hid r6; have hbY : Below w4.heap.size w4 Z6 := grow_belowW hX2 hz2 (own_below HR5.out hW2) g6; clear r6 g6 o6 hC) | (have hz3 := hbY.size; refine step_appR rfl (.tmp 84) (.tmp 88) rfl w4.heap.size v6 (m + 1 + 1) (ds.take (m + 1) ++ [D]) hdt2 (by simp [Act.eval]) HR6.out g off3 (xs.length - (m + 1)) (c2 - (m + 1)) (ds.drop (m + 1)) hdd (HCD.out _ hbY) (by have hq := HQ.out; subst hq; by_cases hcm : c2 = m + 1 <;> simp [Act.eval, hcm]) (by omega) hz3 ?_; intro v7 Z7 r7 g7 o7; have HR7 := Lib.hid r7; have hbX : Below w4.heap.size w4 Z7 := grow_belowW hbY hz3 HR6.out g7; clear r7 g7 o7))
      all_goals
        have hb7 := hb4.trans (hbX.mono hb4.size)
        have hDm : D ∈ ds := by rw [HDm.out]; exact List.getElem_mem _
        have hrw := lines_row HR7.out (by rw [List.length_append, hdt2, hdd]) (fun d hd => by
          have hd' : d ∈ ds := by
            rcases List.mem_append.1 hd with hd | hd
            · rcases List.mem_append.1 hd with hd | hd
              · exact List.mem_of_mem_take hd
              · rw [List.mem_singleton.1 hd]; exact hDm
            · exact List.mem_of_mem_drop hd
          exact ⟨(HKD.out d hd').1, (HKD.out d hd').2.1.keep hb7, (HKD.out d hd').2.2.keep hb7⟩) hb7.size
        obtain ⟨Aq, cq, hvq, hcq, hLq⟩ := hrw
        rw [List.map_append, List.map_append, List.map_take, List.map_drop, HDS.out] at hLq
        subst hvq
        obtain ⟨ys, hys⟩ : ∃ ys, ys = xs.take (m + 1) ++ [D.s] ++ xs.drop (m + 1) := ⟨_, rfl⟩
        have HLq := Lib.hid (show LinesU Z7 Z7.heap.size Aq ys by rw [hys]; exact hLq)
        have hyl : ys.length = m + 1 + 1 + (xs.length - (m + 1)) := by rw [hys]; simp; omega
        have hyw : stWts ys ≤ 2 ^ 29 := by
          have h1 := HWT2.out
          have h2 := stWts_mem (s := D.s) (xs := xs) (by rw [← HDS.out]; exact List.mem_map_of_mem hDm)
          have h3 : stWts xs = stWts (xs.take (m + 1)) + stWts (xs.drop (m + 1)) := by rw [← stWts_app, List.take_append_drop]
          rw [hys, stWts_app, stWts_app]
          omega
        have hK := HK.out
        rw [← hys] at hK
        obtain ⟨hrun, htyp⟩ := hK
        have HTY := Lib.hid htyp
        have HP7 := HPR.out Z7 hb7 ys Aq cq HLq.out hyw
        rw [hyl, hrun] at HP7
        have HP7 := Lib.hid HP7
        have HYL := Lib.hid hyl
        have HO7 := Lib.hid (HO4.out.below hbX)
        clear hLq hys hyl htyp hrun HK HO4 hcq
        generalize hn : m + 1 + 1 + (xs.length - (m + 1)) = n at *
        clear hn
        go_wp2_with fail
        all_goals
          first | subst h | clear h | skip
          refine HP7.out.mono ?_
          rintro r w8 ⟨v, rfl, hv, hb8'⟩
          have hb8 := hb7.trans (hb8'.mono hb7.size)
          obtain ⟨Ax, cx, rfl, _⟩ := own_slice hv
          have HF8 := Lib.hid (SlIs.own hv)
          have HO8 := Lib.hid (HO7.out.below hb8')
          have HLy := Lib.hid (fun (W : World) (h : Below w8.heap.size w8 W) => (HLq.out.keep (hb8'.trans (h.mono hb8'.size))).wide (hb8'.trans (h.mono hb8'.size)).size)
          have q5 : ((R.length : Int) != (R.length : Int)) = false := by simp
          clear hv HP7 HO7
          go_wp2_with fail
          go_loopw [14] (fun i wr => ∃ k : Nat, k ≤ R.length ∧ i = .int .i64 k ∧ Below w8.heap.size w8 wr) (fun i _ => R.length - (intOf i).toNat)
          case atStart => exact ⟨0, Nat.zero_le _, rfl, Below.refl _ _⟩
          case round =>
            obtain ⟨k, hk, rfl, hbw⟩ := hrel
            by_cases hlt : k < R.length
            · obtain ⟨g2, off2, rfl, hg2, c0⟩ := (HO8.out.below hbw).at_ (k := k) (by simpa using hlt)
              obtain ⟨g', off', rfl, hg', c1⟩ := (HF8.out.below hbw).at_ (k := k) (by simpa using hlt)
              simp only [List.getElem_map, intV] at c0 c1
              generalize R[k] = z at *
              have hx : (k : Int) < (R.length : Int) := by omega
              have q6 : (z != z) = false := by simp
              go_wp2_with fail
              go_quiet (fail)
              go_wp2_with fail
              go_roundw
              case rel => exact ⟨k + 1, by omega, by go_num, hbw.trans ((below_draws _).mono hbw.size)⟩
              case measure => simp [intOf]; omega
            · obtain rfl : R.length = k := by omega
              have hbz := hb8.trans (hbw.mono hb8.size)
              have HT1 := Lib.hid (HPT0.out wr hbz)
              go_wp2_with fail
              refine HT1.out.mono ?_
              rintro r w9 ⟨rfl, hb9'⟩
              have hb9 := hbz.trans (hb9'.mono hbz.size)
              have hw9 := hbw.trans (hb9'.mono hbw.size)
              have HT2 := HPT.out w9 hb9 ys Aq cq (HLy.out w9 hw9) hyw
              rw [HYL.out] at HT2
              have HT2 := Lib.hid HT2
              go_wp2_with fail
              refine HT2.out.mono ?_
              rintro r w10 ⟨rfl, hb10'⟩
              have hb10 := hb9.trans (hb10'.mono hb9.size)
              have hty := HTY.out
              clear HT1 HT2 HTY HYL HPT HPT0 HPR HC HCE K1 HCT HCD
              generalize typeP ys = tq at *
              rcases hty with ⟨hT, hQ⟩ | ⟨h0, hm1, hQ⟩ | ⟨hm1, hQ⟩
              · subst hT hQ
                go_wp2_with fail
                go_ret
                exact ⟨rfl, hb1.trans (hb10.mono hb1.size)⟩
              · subst hQ
                have t1 : (tq == -1) = false := beq_eq_false_iff_ne.2 (by omega)
                have t2 : decide (tq ≥ 0) = true := decide_eq_true h0
                have t3 : decide (tq ≤ (m : Int)) = true := decide_eq_true hm1
                have t4 : (tq == tq) = true := by simp
                go_wp2_with fail
                go_ret
                exact ⟨rfl, hb1.trans (hb10.mono hb1.size)⟩
              · subst hQ
                have t1 : (T == -1) = false := beq_eq_false_iff_ne.2 (by omega)
                have t2 : decide (T ≥ 0) = true := decide_eq_true (by omega)
                have t3 : decide (T ≤ (m : Int)) = false := decide_eq_false (by omega)
                have t4 : decide (T > (m : Int)) = true := decide_eq_true hm1
                have t5 : (T + 1 == T + 1) = true := by simp
                have t6 : IntKind.i64.wrap (T + 1) = T + 1 := IntWalk.i64_in _ (by omega)
                go_wp2_with fail
                go_ret
                exact ⟨rfl, hb1.trans (hb10.mono hb1.size)⟩
    · have u1 : (D.s.e.kind != 1) = true := by simp [he]
      rw [hk] at hc0
      clear hk HTM
      go_wp2_with fail
      go_ret
      exact ⟨rfl, hb1.trans (hb4.mono hb1.size)⟩
  · have u0 : (D.s.kind != 1) = true := by simp [hk]
    clear HTM
    go_wp2_with fail
    go_ret
    exact ⟨rfl, hb1.trans (hb4.mono hb1.size)⟩
end Go.Proofs.YtabignplhkbcpaaGreatDoor.fnProgSame
