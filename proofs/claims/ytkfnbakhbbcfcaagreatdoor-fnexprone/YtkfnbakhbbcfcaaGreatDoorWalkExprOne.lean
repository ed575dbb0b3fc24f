/-
  'laws.FnExprOne' returns true at every code: of one word ExprRead tells a name or a number, the same as the model, and what it comes to is right.
  Conditions: the library's variables hold what their initialisers lay (tied to the program's text); every list of bytes.
-/
import Derived.Test.YtkfnbakhbbcfcaaGreatDoorSpecRead5
import Derived.Test.YtkfnbakhbbcfcaaGreatDoorTokDraw
import Derived.Test.YtkfnbakhbbcfcaaGreatDoorOfAll
import Derived.Test.YtkfnbakhbbcfcaaGreatDoorSameAll
import Derived.WalkKit
import Derived.ProofKit
import Derived.OpenShut
import Derived.ShutString
import Derived.ChangeOld
import Derived.Below
import Derived.Lib.SmallJoins
import Derived.SliceStrings
namespace Go.Proofs.YtkfnbakhbbcfcaaGreatDoor.fnExprOne
open Go.ChangeShapes Go.WideShapes Go.ChangeAt Go.RowKit Go.Joins
open Go.ChangeMaps (open_string shut_string)


theorem box_cells {w w' : World} {b : Nat} {v0 v1 v2 v3 : Value} (h : w'.heap[b]? = w.heap[b]?) (h0 : w.cell? ⟨b, 0, none⟩ = some v0) (h1 : w.cell? ⟨b, 1, none⟩ = some v1) (h2 : w.cell? ⟨b, 2, none⟩ = some v2) (h3 : w.cell? ⟨b, 3, none⟩ = some v3) :
    w'.cell? ⟨b, 0, none⟩ = some v0 ∧ w'.cell? ⟨b, 1, none⟩ = some v1 ∧ w'.cell? ⟨b, 2, none⟩ = some v2 ∧ w'.cell? ⟨b, 3, none⟩ = some v3 :=
  ⟨(cell_same h 0).trans h0, (cell_same h 1).trans h1, (cell_same h 2).trans h2, (cell_same h 3).trans h3⟩
theorem sl_ints {w : World} {b : Nat} {zs : List Int} (h : w.heap[b]? = some (.cells (zs.map intV).toArray 3)) : SlIs w (some ⟨b, 0, none⟩) (zs.map intV) := by
  refine .inr ⟨b, 0, rfl, (Array.getElem?_eq_some_iff.1 h).1, fun j u hu => ?_⟩
  have hx : w.cell? ⟨b, 0 + j, none⟩ = ((zs.map intV).toArray)[0 + j]? := by simp [World.cell?, h]
  rw [hx, Nat.zero_add, List.getElem?_toArray]
  exact hu
theorem dec_word {l : List UInt8} (h : decL l = true) : wordL l = false := by
  cases hw : wordL l
  · rfl
  · simp only [wordL, Bool.and_eq_true, decide_eq_true_eq] at hw
    simp only [decL, Bool.and_eq_true] at h
    cases hl : l with
    | nil => rw [hl] at hw; simp at hw
    | cons c t =>
      rw [hl] at hw h
      have h2 := let_dig (List.all_eq_true.1 hw.2.2 c (by simp))
      rw [List.all_eq_true.1 h.1 c (by simp)] at h2
      cases h2
theorem wrap_le (b : Bool) (ws : List ByteArray) : ws.length ≤ (wrapW b ws).length := by
  unfold wrapW
  split
  · simp only [List.length_append, List.length_cons, List.length_nil]; omega
  · exact Nat.le_refl _
/-- The parts of one word. -/
theorem one_word {p : Pt} {s : ByteArray} (hf : p.fine = true) (h : p.words = [s]) : (p = .name s ∧ nameB s = true) ∨ (∃ n : Int, 0 ≤ n ∧ n ≤ 1000000 ∧ p = .num n ∧ decS n = s) := by
  cases p with
  | num n =>
    simp only [Pt.fine, Bool.and_eq_true, decide_eq_true_eq] at hf
    simp only [Pt.words, List.cons.injEq, and_true] at h
    exact .inr ⟨n, hf.1, hf.2, rfl, h⟩
  | name t =>
    simp only [Pt.words, List.cons.injEq, and_true] at h
    subst h
    exact .inl ⟨rfl, hf⟩
  | two t a b =>
    have h1 := congrArg List.length h
    have h2 := a.words_pos
    have h3 : a.words.length ≤ (wrapW (decide (a.lvl < max (hold t) 2)) a.words).length := wrap_le _ _
    have h4 := b.words_pos
    have h5 : b.words.length ≤ (wrapW (decide (b.lvl < hold t + 1)) b.words).length := wrap_le _ _
    simp only [Pt.words, List.length_append, List.length_cons, List.length_nil] at h1
    omega
  | «as» t a =>
    have h1 := congrArg List.length h
    simp only [Pt.words, List.length_append, List.length_cons, List.length_nil] at h1
    omega
theorem read_name {s : ByteArray} (h : nameB s = true) : IsRead [s] (.name s) := by
  refine ⟨by simp, by simp [Pt.ok, Pt.fine, Pt.depth, Pt.nodes, h], rfl, fun q hq hw => ?_⟩
  rcases one_word (ok_fine hq) hw with ⟨rfl, _⟩ | ⟨n, h0, h1, rfl, e⟩
  · rfl
  · have := dec_name (decS_dec (n := n) h1)
    rw [e, h] at this
    cases this
theorem read_num {n : Int} (h0 : 0 ≤ n) (h1 : n ≤ 1000000) : IsRead [decS n] (.num n) := by
  refine ⟨by simp, by simp [Pt.ok, Pt.fine, Pt.depth, Pt.nodes, h0, h1], rfl, fun q hq hw => ?_⟩
  rcases one_word (ok_fine hq) hw with ⟨rfl, hn⟩ | ⟨m, m0, m1, rfl, e⟩
  · have := dec_name (decS_dec (n := n) h1)
    rw [hn] at this
    cases this
  · have e2 := decS_val m0
    rw [e, decS_val h0] at e2
    rw [e2]
theorem read_none {s : ByteArray} (hn : nameB s = false) (hd : decL (L s) = false) : NoRead [s] := by
  intro _ q hq hw
  rcases one_word (ok_fine hq) hw with ⟨_, h⟩ | ⟨m, m0, m1, _, e⟩
  · rw [hn] at h; cases h
  · have := decS_dec (n := m) m1
    rw [e, hd] at this
    cases this
theorem of_name {s : ByteArray} (h : nameB s = true) : ofE (.mk 2 0 s []) [s] [5] = some 5 := by
  have hp : okP (.mk 2 0 s []) = some (.name s) := okP_ex (p := .name s) (by simp [Pt.ok, Pt.fine, Pt.depth, Pt.nodes, h])
  have hl : lastOf [s] s = some 0 := by simp [lastOf, findL, List.getD]
  unfold ofE
  rw [hp, if_pos (show [s].length = [(5 : Int)].length from rfl)]
  simp only [Option.bind_some, Pt.of, hl, Option.map_some, List.getD]
  rfl
theorem of_num {n : Int} (h0 : 0 ≤ n) (h1 : n ≤ 1000000) (ss : List ByteArray) (zs : List Int) (h : ss.length = zs.length) : ofE (.mk 1 n ByteArray.empty []) ss zs = some n := by
  have hp : okP (.mk 1 n ByteArray.empty []) = some (.num n) := okP_ex (p := .num n) (by simp [Pt.ok, Pt.fine, Pt.depth, Pt.nodes, h0, h1])
  unfold ofE
  rw [hp, if_pos h]
  rfl
theorem i_read {ws : List ByteArray} {p : Pt} (hp : IsRead ws p) (V : World) (r : Ending) (w' : World) (h : Reads ws V r w') : ∃ A c, r = .returned (.tuple #[.agg #[.int .i64 p.ex.kind, .int .i64 p.ex.n, .string p.ex.s, .slice A p.ex.kids.length c], .bool true]) ∧ Below V.heap.size V w' := by
  rcases h with ⟨q, A, c, hq, rfl, _, _, h3⟩ | ⟨hn, _⟩
  · obtain rfl := hp.2.2.2 q hq.2.1 hq.2.2.1
    exact ⟨A, c, rfl, h3⟩
  · exact absurd (hn hp.1 p hp.2.1) (fun f => f hp.2.2.1)
theorem s_read {ws : List ByteArray} {p : Pt} (hp : IsRead ws p) (V : World) (r : Ending) (w' : World) (h : ReadsS ws V r w') : ∃ A c, r = .returned (.tuple #[.agg #[.int .i64 p.ex.kind, .int .i64 p.ex.n, .string p.ex.s, .slice A p.ex.kids.length c], .bool true]) ∧ Below V.heap.size V w' := by
  rcases h with ⟨q, A, c, hq, rfl, _, _, h3⟩ | ⟨hn, _⟩
  · obtain rfl := hp.2.2.2 q hq.2.1 hq.2.2.1
    exact ⟨A, c, rfl, h3⟩
  · exact absurd (hn hp.1 p hp.2.1) (fun f => f hp.2.2.1)
theorem i_none {ws : List ByteArray} (hn : NoRead ws) (V : World) (r : Ending) (w' : World) (h : Reads ws V r w') : ∃ A c, r = .returned (.tuple #[.agg #[.int .i64 0, .int .i64 0, .string { data := #[] }, .slice A 0 c], .bool false]) ∧ Below V.heap.size V w' := by
  rcases h with ⟨q, A, c, hq, _⟩ | ⟨_, rfl, h3⟩
  · exact absurd (hn hq.1 q hq.2.1) (fun f => f hq.2.2.1)
  · exact ⟨none, 0, rfl, h3⟩
theorem s_none {ws : List ByteArray} (hn : NoRead ws) (V : World) (r : Ending) (w' : World) (h : ReadsS ws V r w') : ∃ A c, r = .returned (.tuple #[.agg #[.int .i64 0, .int .i64 0, .string { data := #[] }, .slice A 0 c], .bool false]) ∧ Below V.heap.size V w' := by
  rcases h with ⟨q, A, c, hq, _⟩ | ⟨_, rfl, h3⟩
  · exact absurd (hn hq.1 q hq.2.1) (fun f => f hq.2.2.1)
  · exact ⟨none, 0, rfl, h3⟩

set_option linter.unusedVariables false in
set_option maxRecDepth 100000 in
set_option maxHeartbeats 16000000 in
theorem walk (A : Option Addr) (len cap : Nat) (w : World) (hA : InCode w A len cap) (hlaid : LaidW w) :
    Calls Tryz.prog 7 #[.slice A len cap] w fun e w' => e = .returned (.bool true) ∧ Below w.heap.size w w' := by
  have hlc := hA.1
  have HL := Lib.hid hlaid
  clear hlaid
  by_cases hbig : (1048576 : Int) < (len : Int)
  · have q : decide ((1048576 : Int) < (len : Int)) = true := decide_eq_true hbig
    clear hA
    go_enter Tryz.func7, Tryz.ntmps7
    go_wp2_with fail
    go_ret
    exact ⟨rfl, Below.refl _ _⟩
  have q : decide ((1048576 : Int) < (len : Int)) = false := decide_eq_false hbig
  have HD := Lib.hid (drawTokKind_any A len cap w hA)
  clear hA hbig
  go_enter Tryz.func7, Tryz.ntmps7
  go_wp2_with fail
  refine HD.out.mono ?_
  rintro r w1 ⟨s, hs9, rfl, hb1⟩
  have hsm : ∀ t ∈ [s], t.size ≤ 2 ^ 40 := fun t ht => by simp at ht; subst ht; omega
  obtain ⟨W2, hW2⟩ : ∃ W2, W2 = w1.alloc (.cells #[.string s] 9) := ⟨_, rfl⟩
  have hb12 : Below w1.heap.size w1 W2 := by rw [hW2]; exact (Below.refl _ _).alloc (Nat.le_refl _) _
  have SL2 : SlIs W2 (some ⟨w1.heap.size, 0, none⟩) ([s].map strV) := by rw [hW2]; exact sl_of_blk (World.alloc_heap_new w1 _)
  have B2 : Below w.heap.size w W2 := hb1.trans (hb12.mono hb1.size)
  have HTK := Lib.hid (fun (V : World) (hV : Below w.heap.size w V) => tokKind_any s V (by omega) (HL.out.below hV))
  clear hb1 hb12 HD
  cases hn : nameB s with
  | true =>
    have HOF := Lib.hid (of_name hn)
    have hI1 := i_read (read_name hn)
    have hS1 := s_read (read_name hn)
    have hwx : (Ex.mk 2 0 s []).wt ≤ 2 ^ 40 := by simp [Ex.wt, Ex.wts]; omega
    have hk : kindL (L s) = 1 := by
      have h1 := name_word hn
      simp [kindL, h1]
    rw [hk] at HTK
    simp only [Pt.ex, Ex.kind, Ex.n, Ex.s, Ex.kids, List.length_nil] at hI1 hS1
    have HI := Lib.hid (fun (A' : Option Addr) (V : World) (hV : SlIs V A' ([s].map strV)) (hw : Below w.heap.size w V) => (exprRead_any A' 1 [s] V hV (HL.out.below hw) hsm (by simp)).mono (fun r w' h => hI1 V r w' h))
    have HS := Lib.hid (fun (A' : Option Addr) (V : World) (hV : SlIs V A' ([s].map strV)) => (specExprRead_any A' 1 [s] V ⟨hV, hsm, by simp⟩).mono (fun r w' h => hS1 V r w' h))
    have HX := Lib.hid (fun (A1 A2 : Option Addr) (c1 c2 : Nat) (V : World) => show Calls Tryz.prog 27 #[.agg #[.int .i64 2, .int .i64 0, .string s, .slice A1 0 c1], .agg #[.int .i64 2, .int .i64 0, .string s, .slice A2 0 c2]] V (fun r w' => r = .returned (.bool true) ∧ Below V.heap.size V w') from (by
      have h := exprSame_any (.mk 2 0 s []) (.mk 2 0 s []) A1 A2 c1 c2 V.heap.size V .nil .nil (Nat.zero_le _) (Nat.zero_le _) (Nat.le_refl _) (by simp [Ex.nodes, Ex.nodess])
      rw [(sameE_iff _ _).2 rfl] at h
      exact h))
    have HO := Lib.hid (fun (A1 An Av : Option Addr) (c1 : Nat) (V : World) (h1 : SlIs V An ([s].map strV)) (h2 : SlIs V Av ([(5 : Int)].map intV)) => show Calls Tryz.prog 33 #[.agg #[.int .i64 2, .int .i64 0, .string s, .slice A1 0 c1], .slice An 1 1, .slice Av 1 1] V (fun r w' => r = .returned (.tuple #[.int .i64 5, .bool true]) ∧ Below V.heap.size V w') from (by
      have h := exprOf_any (.mk 2 0 s []) A1 c1 0 An Av 1 1 [s] [5] V .nil (Nat.zero_le _) (Nat.zero_le _) hwx (by simp) (by simp) h1 h2
      rw [HOF.out] at h
      exact h))

    clear hI1 hS1 hsm hwx hn hk
    go_wp2_with fail
    rw [← hW2]
    refine (HI.out _ W2 SL2 B2).mono ?_
    rintro r w3 ⟨A3, c3, rfl, hb3⟩
    obtain ⟨W3, hW3⟩ : ∃ W3, W3 = w3.alloc (.cells #[.int .i64 2, .int .i64 0, .string s, .slice A3 0 c3] 25) := ⟨_, rfl⟩
    have hbW3 : Below w3.heap.size w3 W3 := by rw [hW3]; exact (Below.refl _ w3).alloc (Nat.le_refl _) _
    have hs3 : w3.heap.size < W3.heap.size := by rw [hW3]; simp
    have B3 := B2.trans ((hb3.trans (hbW3.mono hb3.size)).mono B2.size)
    have d0 : W3.cell? ⟨w3.heap.size, 0, none⟩ = some (.int .i64 2) := by rw [hW3]; exact cell_made4 w3 _ _ 0 _ rfl
    have d1 : W3.cell? ⟨w3.heap.size, 1, none⟩ = some (.int .i64 0) := by rw [hW3]; exact cell_made4 w3 _ _ 1 _ rfl
    have d2 : W3.cell? ⟨w3.heap.size, 2, none⟩ = some (.string s) := by rw [hW3]; exact cell_made4 w3 _ _ 2 _ rfl
    have d3 : W3.cell? ⟨w3.heap.size, 3, none⟩ = some (.slice A3 0 c3) := by rw [hW3]; exact cell_made4 w3 _ _ 3 _ rfl
    obtain ⟨W4, hW4⟩ : ∃ W4, W4 = W3.alloc (.cells #[.string s] 9) := ⟨_, rfl⟩
    have hb34 : Below W3.heap.size W3 W4 := by rw [hW4]; exact (Below.refl _ _).alloc (Nat.le_refl _) _
    have SL4 : SlIs W4 (some ⟨W3.heap.size, 0, none⟩) ([s].map strV) := by rw [hW4]; exact sl_of_blk (World.alloc_heap_new W3 _)
    have HB3 := Lib.hid B3
    have hz3 : W3.heap.size = w3.heap.size + 1 := by rw [hW3]; simp
    rw [hz3] at SL4
    clear hz3
    go_wp2_with fail
    rw [← hW3, ← hW4]
    refine (HS.out _ W4 SL4).mono ?_
    rintro r w5 ⟨A5, c5, rfl, hb5⟩
    obtain ⟨W5, hW5⟩ : ∃ W5, W5 = w5.alloc (.cells #[.int .i64 2, .int .i64 0, .string s, .slice A5 0 c5] 25) := ⟨_, rfl⟩
    have hbW5 : Below w5.heap.size w5 W5 := by rw [hW5]; exact (Below.refl _ w5).alloc (Nat.le_refl _) _
    have hb45 := hb5.trans (hbW5.mono hb5.size)
    have hb35 := hb34.trans (hb45.mono hb34.size)
    have B5 := HB3.out.trans (hb35.mono HB3.out.size)
    have g0 : W5.cell? ⟨w5.heap.size, 0, none⟩ = some (.int .i64 2) := by rw [hW5]; exact cell_made4 w5 _ _ 0 _ rfl
    have g1 : W5.cell? ⟨w5.heap.size, 1, none⟩ = some (.int .i64 0) := by rw [hW5]; exact cell_made4 w5 _ _ 1 _ rfl
    have g2 : W5.cell? ⟨w5.heap.size, 2, none⟩ = some (.string s) := by rw [hW5]; exact cell_made4 w5 _ _ 2 _ rfl
    have g3 : W5.cell? ⟨w5.heap.size, 3, none⟩ = some (.slice A5 0 c5) := by rw [hW5]; exact cell_made4 w5 _ _ 3 _ rfl
    obtain ⟨x0, x1, x2, x3⟩ := box_cells (hb35.block w3.heap.size hs3) d0 d1 d2 d3
    rw [hW5] at x0 x1 x2 x3
    clear SL4 hb34 hbW3
    go_wp2_with fail
    rw [← hW5]
    refine (HX.out A3 A5 c3 c5 W5).mono ?_
    rintro r w6 ⟨rfl, hb6⟩
    have hb36 := hb35.trans (hb6.mono hb35.size)
    have B6 := B5.trans (hb6.mono B5.size)
    clear x0 x1 x2 x3 g0 g1 g2 g3
    obtain ⟨x0, x1, x2, x3⟩ := box_cells (hb36.block w3.heap.size hs3) d0 d1 d2 d3
    have hl6 : w3.heap.size < w6.heap.size := Nat.lt_of_lt_of_le hs3 hb36.size
    clear hW3 hW4 hW5 hb5 hbW5 hb45
    obtain ⟨W7, hW7⟩ : ∃ W7, W7 = (w6.alloc (.cells #[.string s] 9)).alloc (.cells #[.int .i64 5] 3) := ⟨_, rfl⟩
    have hb67 : Below w6.heap.size w6 W7 := by rw [hW7]; exact ((Below.refl _ _).alloc (Nat.le_refl _) _).alloc (by simp) _
    have S7a : SlIs W7 (some ⟨w6.heap.size, 0, none⟩) ([s].map strV) := by rw [hW7]; exact sl_of_blk ((Below.heap_alloc _ _ _ (by simp)).trans (World.alloc_heap_new w6 _))
    have S7b : SlIs W7 (some ⟨w6.heap.size + 1, 0, none⟩) ([(5 : Int)].map intV) := by
      rw [hW7]
      have h := sl_ints (zs := [5]) (World.alloc_heap_new (w6.alloc (.cells #[.string s] 9)) (.cells #[.int .i64 5] 3))
      rw [World.size_alloc] at h
      exact h
    have B7 := B6.trans (hb67.mono B6.size)
    have hb37 := hb36.trans (hb67.mono hb36.size)
    go_wp2_with fail
    rw [← hW7]
    clear hW7
    refine (HO.out A3 _ _ c3 W7 S7a S7b).mono ?_
    rintro r w8 ⟨rfl, hb8⟩
    have hb38 := hb37.trans (hb8.mono hb37.size)
    have B8 := B7.trans (hb8.mono B7.size)
    clear x0 x1 x2 x3 S7a S7b
    obtain ⟨x0, x1, x2, x3⟩ := box_cells (hb38.block w3.heap.size hs3) d0 d1 d2 d3

    go_wp2_with fail
    refine (HTK.out w8 B8).mono ?_
    rintro r w9 ⟨rfl, hb9⟩
    clear x0 x1 x2 x3
    obtain ⟨x0, x1, x2, x3⟩ := box_cells ((hb38.trans (hb9.mono hb38.size)).block w3.heap.size hs3) d0 d1 d2 d3
    have q9 : (s.toList == s.toList) = true := by simp
    go_wp2_with fail
    go_ret
    exact ⟨rfl, B8.trans (hb9.mono B8.size)⟩
  | false =>
    cases hd : decL (L s) with
    | true =>
      obtain ⟨n, hn0, hn1, hse⟩ : ∃ n : Int, 0 ≤ n ∧ n ≤ 1000000 ∧ decS n = s := by
        obtain ⟨m, hm, e⟩ := (decL_iff _).1 hd
        refine ⟨(m : Int), by omega, by omega, ?_⟩
        unfold decS
        rw [Int.toNat_natCast, e]
        rfl
      have hrd : IsRead [s] (.num n) := by rw [← hse]; exact read_num hn0 hn1
      have HOF := Lib.hid (show ofE (.mk 1 n { data := #[] } []) [s] [5] = some n from of_num hn0 hn1 [s] [5] rfl)
      have HON := Lib.hid (show ofE (.mk 1 n { data := #[] } []) [] [] = some n from of_num hn0 hn1 [] [] rfl)
      have hI1 := i_read hrd
      have hS1 := s_read hrd
      have hwx : (Ex.mk 1 n { data := #[] } []).wt ≤ 2 ^ 40 := Nat.zero_le _
      have hk : kindL (L s) = 2 := by simp [kindL, dec_word hd, hd]
      rw [hk] at HTK
      simp only [Pt.ex, Ex.kind, Ex.n, Ex.s, Ex.kids, List.length_nil] at hI1 hS1
      rw [show ByteArray.empty = ({ data := #[] } : ByteArray) from rfl] at hI1 hS1
      have HI := Lib.hid (fun (A' : Option Addr) (V : World) (hV : SlIs V A' ([s].map strV)) (hw : Below w.heap.size w V) => (exprRead_any A' 1 [s] V hV (HL.out.below hw) hsm (by simp)).mono (fun r w' h => hI1 V r w' h))
      have HS := Lib.hid (fun (A' : Option Addr) (V : World) (hV : SlIs V A' ([s].map strV)) => (specExprRead_any A' 1 [s] V ⟨hV, hsm, by simp⟩).mono (fun r w' h => hS1 V r w' h))
      have HX := Lib.hid (fun (A1 A2 : Option Addr) (c1 c2 : Nat) (V : World) => show Calls Tryz.prog 27 #[.agg #[.int .i64 1, .int .i64 n, .string { data := #[] }, .slice A1 0 c1], .agg #[.int .i64 1, .int .i64 n, .string { data := #[] }, .slice A2 0 c2]] V (fun r w' => r = .returned (.bool true) ∧ Below V.heap.size V w') from (by
        have h := exprSame_any (.mk 1 n { data := #[] } []) (.mk 1 n { data := #[] } []) A1 A2 c1 c2 V.heap.size V .nil .nil (Nat.zero_le _) (Nat.zero_le _) (Nat.le_refl _) (by simp [Ex.nodes, Ex.nodess])
        rw [(sameE_iff _ _).2 rfl] at h
        exact h))
      have HO := Lib.hid (fun (A1 An Av : Option Addr) (c1 : Nat) (V : World) (h1 : SlIs V An ([s].map strV)) (h2 : SlIs V Av ([(5 : Int)].map intV)) => show Calls Tryz.prog 33 #[.agg #[.int .i64 1, .int .i64 n, .string { data := #[] }, .slice A1 0 c1], .slice An 1 1, .slice Av 1 1] V (fun r w' => r = .returned (.tuple #[.int .i64 n, .bool true]) ∧ Below V.heap.size V w') from (by
        have h := exprOf_any (.mk 1 n { data := #[] } []) A1 c1 0 An Av 1 1 [s] [5] V .nil (Nat.zero_le _) (Nat.zero_le _) hwx (by simp) (by simp) h1 h2
        rw [HOF.out] at h
        exact h))

      have HO0 := Lib.hid (fun (A1 : Option Addr) (c1 : Nat) (V : World) => show Calls Tryz.prog 33 #[.agg #[.int .i64 1, .int .i64 n, .string { data := #[] }, .slice A1 0 c1], .slice none 0 0, .slice none 0 0] V (fun r w' => r = .returned (.tuple #[.int .i64 n, .bool true]) ∧ Below V.heap.size V w') from (by
        have h := exprOf_any (.mk 1 n { data := #[] } []) A1 c1 0 none none 0 0 [] [] V .nil (Nat.zero_le _) (Nat.zero_le _) hwx (by simp) (by simp) (.inl rfl) (.inl rfl)
        rw [HON.out] at h
        exact h))
      clear hI1 hS1 hsm hwx hn hd hk hse hrd
      go_wp2_with fail
      rw [← hW2]
      refine (HI.out _ W2 SL2 B2).mono ?_
      rintro r w3 ⟨A3, c3, rfl, hb3⟩
      obtain ⟨W3, hW3⟩ : ∃ W3, W3 = w3.alloc (.cells #[.int .i64 1, .int .i64 n, .string { data := #[] }, .slice A3 0 c3] 25) := ⟨_, rfl⟩
      have hbW3 : Below w3.heap.size w3 W3 := by rw [hW3]; exact (Below.refl _ w3).alloc (Nat.le_refl _) _
      have hs3 : w3.heap.size < W3.heap.size := by rw [hW3]; simp
      have B3 := B2.trans ((hb3.trans (hbW3.mono hb3.size)).mono B2.size)
      have d0 : W3.cell? ⟨w3.heap.size, 0, none⟩ = some (.int .i64 1) := by rw [hW3]; exact cell_made4 w3 _ _ 0 _ rfl
      have d1 : W3.cell? ⟨w3.heap.size, 1, none⟩ = some (.int .i64 n) := by rw [hW3]; exact cell_made4 w3 _ _ 1 _ rfl
      have d2 : W3.cell? ⟨w3.heap.size, 2, none⟩ = some (.string { data := #[] }) := by rw [hW3]; exact cell_made4 w3 _ _ 2 _ rfl
      have d3 : W3.cell? ⟨w3.heap.size, 3, none⟩ = some (.slice A3 0 c3) := by rw [hW3]; exact cell_made4 w3 _ _ 3 _ rfl
      obtain ⟨W4, hW4⟩ : ∃ W4, W4 = W3.alloc (.cells #[.string s] 9) := ⟨_, rfl⟩
      have hb34 : Below W3.heap.size W3 W4 := by rw [hW4]; exact (Below.refl _ _).alloc (Nat.le_refl _) _
      have SL4 : SlIs W4 (some ⟨W3.heap.size, 0, none⟩) ([s].map strV) := by rw [hW4]; exact sl_of_blk (World.alloc_heap_new W3 _)
      have HB3 := Lib.hid B3
      have hz3 : W3.heap.size = w3.heap.size + 1 := by rw [hW3]; simp
      rw [hz3] at SL4
      clear hz3
      go_wp2_with fail
      rw [← hW3, ← hW4]
      refine (HS.out _ W4 SL4).mono ?_
      rintro r w5 ⟨A5, c5, rfl, hb5⟩
      obtain ⟨W5, hW5⟩ : ∃ W5, W5 = w5.alloc (.cells #[.int .i64 1, .int .i64 n, .string { data := #[] }, .slice A5 0 c5] 25) := ⟨_, rfl⟩
      have hbW5 : Below w5.heap.size w5 W5 := by rw [hW5]; exact (Below.refl _ w5).alloc (Nat.le_refl _) _
      have hb45 := hb5.trans (hbW5.mono hb5.size)
      have hb35 := hb34.trans (hb45.mono hb34.size)
      have B5 := HB3.out.trans (hb35.mono HB3.out.size)
      have g0 : W5.cell? ⟨w5.heap.size, 0, none⟩ = some (.int .i64 1) := by rw [hW5]; exact cell_made4 w5 _ _ 0 _ rfl
      have g1 : W5.cell? ⟨w5.heap.size, 1, none⟩ = some (.int .i64 n) := by rw [hW5]; exact cell_made4 w5 _ _ 1 _ rfl
      have g2 : W5.cell? ⟨w5.heap.size, 2, none⟩ = some (.string { data := #[] }) := by rw [hW5]; exact cell_made4 w5 _ _ 2 _ rfl
      have g3 : W5.cell? ⟨w5.heap.size, 3, none⟩ = some (.slice A5 0 c5) := by rw [hW5]; exact cell_made4 w5 _ _ 3 _ rfl
      obtain ⟨x0, x1, x2, x3⟩ := box_cells (hb35.block w3.heap.size hs3) d0 d1 d2 d3
      rw [hW5] at x0 x1 x2 x3
      clear SL4 hb34 hbW3
      go_wp2_with fail
      rw [← hW5]
      refine (HX.out A3 A5 c3 c5 W5).mono ?_
      rintro r w6 ⟨rfl, hb6⟩
      have hb36 := hb35.trans (hb6.mono hb35.size)
      have B6 := B5.trans (hb6.mono B5.size)
      clear x0 x1 x2 x3 g0 g1 g2 g3
      obtain ⟨x0, x1, x2, x3⟩ := box_cells (hb36.block w3.heap.size hs3) d0 d1 d2 d3
      have hl6 : w3.heap.size < w6.heap.size := Nat.lt_of_lt_of_le hs3 hb36.size
      clear hW3 hW4 hW5 hb5 hbW5 hb45
      obtain ⟨W7, hW7⟩ : ∃ W7, W7 = (w6.alloc (.cells #[.string s] 9)).alloc (.cells #[.int .i64 5] 3) := ⟨_, rfl⟩
      have hb67 : Below w6.heap.size w6 W7 := by rw [hW7]; exact ((Below.refl _ _).alloc (Nat.le_refl _) _).alloc (by simp) _
      have S7a : SlIs W7 (some ⟨w6.heap.size, 0, none⟩) ([s].map strV) := by rw [hW7]; exact sl_of_blk ((Below.heap_alloc _ _ _ (by simp)).trans (World.alloc_heap_new w6 _))
      have S7b : SlIs W7 (some ⟨w6.heap.size + 1, 0, none⟩) ([(5 : Int)].map intV) := by
        rw [hW7]
        have h := sl_ints (zs := [5]) (World.alloc_heap_new (w6.alloc (.cells #[.string s] 9)) (.cells #[.int .i64 5] 3))
        rw [World.size_alloc] at h
        exact h
      have B7 := B6.trans (hb67.mono B6.size)
      have hb37 := hb36.trans (hb67.mono hb36.size)
      go_wp2_with fail
      rw [← hW7]
      clear hW7
      refine (HO.out A3 _ _ c3 W7 S7a S7b).mono ?_
      rintro r w8 ⟨rfl, hb8⟩
      have hb38 := hb37.trans (hb8.mono hb37.size)
      have B8 := B7.trans (hb8.mono B7.size)
      clear x0 x1 x2 x3 S7a S7b
      obtain ⟨x0, x1, x2, x3⟩ := box_cells (hb38.block w3.heap.size hs3) d0 d1 d2 d3

      go_wp2_with fail
      refine (HO0.out A3 c3 w8).mono ?_
      rintro r w9 ⟨rfl, hb9⟩
      have B9 := B8.trans (hb9.mono B8.size)
      have hb39 := hb38.trans (hb9.mono hb38.size)
      clear x0 x1 x2 x3
      go_wp2_with fail
      refine (HTK.out w9 B9).mono ?_
      rintro r w10 ⟨rfl, hb10⟩
      obtain ⟨x0, x1, x2, x3⟩ := box_cells ((hb39.trans (hb10.mono hb39.size)).block w3.heap.size hs3) d0 d1 d2 d3
      have q9 : (n == n) = true := by simp
      go_wp2_with fail
      go_ret
      exact ⟨rfl, B9.trans (hb10.mono B9.size)⟩
    | false =>
      have hI1 := i_none (read_none hn hd)
      have hS1 := s_none (read_none hn hd)
      have HI := Lib.hid (fun (A' : Option Addr) (V : World) (hV : SlIs V A' ([s].map strV)) (hw : Below w.heap.size w V) => (exprRead_any A' 1 [s] V hV (HL.out.below hw) hsm (by simp)).mono (fun r w' h => hI1 V r w' h))
      have HS := Lib.hid (fun (A' : Option Addr) (V : World) (hV : SlIs V A' ([s].map strV)) => (specExprRead_any A' 1 [s] V ⟨hV, hsm, by simp⟩).mono (fun r w' h => hS1 V r w' h))
      have HX := Lib.hid (fun (A1 A2 : Option Addr) (c1 c2 : Nat) (V : World) => show Calls Tryz.prog 27 #[.agg #[.int .i64 0, .int .i64 0, .string { data := #[] }, .slice A1 0 c1], .agg #[.int .i64 0, .int .i64 0, .string { data := #[] }, .slice A2 0 c2]] V (fun r w' => r = .returned (.bool true) ∧ Below V.heap.size V w') from (by
        have h := exprSame_any (.mk 0 0 { data := #[] } []) (.mk 0 0 { data := #[] } []) A1 A2 c1 c2 V.heap.size V .nil .nil (Nat.zero_le _) (Nat.zero_le _) (Nat.le_refl _) (by simp [Ex.nodes, Ex.nodess])
        rw [(sameE_iff _ _).2 rfl] at h
        exact h))

      clear hI1 hS1 hsm hn hd HTK
      go_wp2_with fail
      rw [← hW2]
      refine (HI.out _ W2 SL2 B2).mono ?_
      rintro r w3 ⟨A3, c3, rfl, hb3⟩
      obtain ⟨W3, hW3⟩ : ∃ W3, W3 = w3.alloc (.cells #[.int .i64 0, .int .i64 0, .string { data := #[] }, .slice A3 0 c3] 25) := ⟨_, rfl⟩
      have hbW3 : Below w3.heap.size w3 W3 := by rw [hW3]; exact (Below.refl _ w3).alloc (Nat.le_refl _) _
      have hs3 : w3.heap.size < W3.heap.size := by rw [hW3]; simp
      have B3 := B2.trans ((hb3.trans (hbW3.mono hb3.size)).mono B2.size)
      have d0 : W3.cell? ⟨w3.heap.size, 0, none⟩ = some (.int .i64 0) := by rw [hW3]; exact cell_made4 w3 _ _ 0 _ rfl
      have d1 : W3.cell? ⟨w3.heap.size, 1, none⟩ = some (.int .i64 0) := by rw [hW3]; exact cell_made4 w3 _ _ 1 _ rfl
      have d2 : W3.cell? ⟨w3.heap.size, 2, none⟩ = some (.string { data := #[] }) := by rw [hW3]; exact cell_made4 w3 _ _ 2 _ rfl
      have d3 : W3.cell? ⟨w3.heap.size, 3, none⟩ = some (.slice A3 0 c3) := by rw [hW3]; exact cell_made4 w3 _ _ 3 _ rfl
      obtain ⟨W4, hW4⟩ : ∃ W4, W4 = W3.alloc (.cells #[.string s] 9) := ⟨_, rfl⟩
      have hb34 : Below W3.heap.size W3 W4 := by rw [hW4]; exact (Below.refl _ _).alloc (Nat.le_refl _) _
      have SL4 : SlIs W4 (some ⟨W3.heap.size, 0, none⟩) ([s].map strV) := by rw [hW4]; exact sl_of_blk (World.alloc_heap_new W3 _)
      have HB3 := Lib.hid B3
      have hz3 : W3.heap.size = w3.heap.size + 1 := by rw [hW3]; simp
      rw [hz3] at SL4
      clear hz3
      go_wp2_with fail
      rw [← hW3, ← hW4]
      refine (HS.out _ W4 SL4).mono ?_
      rintro r w5 ⟨A5, c5, rfl, hb5⟩
      obtain ⟨W5, hW5⟩ : ∃ W5, W5 = w5.alloc (.cells #[.int .i64 0, .int .i64 0, .string { data := #[] }, .slice A5 0 c5] 25) := ⟨_, rfl⟩
      have hbW5 : Below w5.heap.size w5 W5 := by rw [hW5]; exact (Below.refl _ w5).alloc (Nat.le_refl _) _
      have hb45 := hb5.trans (hbW5.mono hb5.size)
      have hb35 := hb34.trans (hb45.mono hb34.size)
      have B5 := HB3.out.trans (hb35.mono HB3.out.size)
      have g0 : W5.cell? ⟨w5.heap.size, 0, none⟩ = some (.int .i64 0) := by rw [hW5]; exact cell_made4 w5 _ _ 0 _ rfl
      have g1 : W5.cell? ⟨w5.heap.size, 1, none⟩ = some (.int .i64 0) := by rw [hW5]; exact cell_made4 w5 _ _ 1 _ rfl
      have g2 : W5.cell? ⟨w5.heap.size, 2, none⟩ = some (.string { data := #[] }) := by rw [hW5]; exact cell_made4 w5 _ _ 2 _ rfl
      have g3 : W5.cell? ⟨w5.heap.size, 3, none⟩ = some (.slice A5 0 c5) := by rw [hW5]; exact cell_made4 w5 _ _ 3 _ rfl
      obtain ⟨x0, x1, x2, x3⟩ := box_cells (hb35.block w3.heap.size hs3) d0 d1 d2 d3
      rw [hW5] at x0 x1 x2 x3
      clear SL4 hb34 hbW3
      go_wp2_with fail
      rw [← hW5]
      refine (HX.out A3 A5 c3 c5 W5).mono ?_
      rintro r w6 ⟨rfl, hb6⟩
      have hb36 := hb35.trans (hb6.mono hb35.size)
      have B6 := B5.trans (hb6.mono B5.size)
      clear x0 x1 x2 x3 g0 g1 g2 g3
      obtain ⟨x0, x1, x2, x3⟩ := box_cells (hb36.block w3.heap.size hs3) d0 d1 d2 d3
      have hl6 : w3.heap.size < w6.heap.size := Nat.lt_of_lt_of_le hs3 hb36.size
      clear hW3 hW4 hW5 hb5 hbW5 hb45

      go_wp2_with fail
      go_ret
      exact ⟨rfl, B6⟩
end Go.Proofs.YtkfnbakhbbcfcaaGreatDoor.fnExprOne
