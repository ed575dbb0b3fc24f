/-
  Words that are drawn by a code, one list in two torn: the model's DrawExprRead.
-/
import Derived.Test.YtodioplkgjpcjaaGreatDoorDrawOk
import Derived.Test.YtodioplkgjpcjaaGreatDoorSpecWords5
import Derived.Test.YtodioplkgjpcjaaGreatDoorAppS
namespace Go.Proofs.YtodioplkgjpcjaaGreatDoor
open Go.RowKit

theorem wrap_mem8 {b : Bool} {ws : List ByteArray} {s : ByteArray} (h : s ∈ wrapW b ws) (hw : ∀ t ∈ ws, t.size ≤ 8) : s.size ≤ 8 := by
  unfold wrapW at h
  split at h
  · simp only [List.mem_append, List.mem_cons, List.not_mem_nil, or_false] at h
    rcases h with (rfl | h) | rfl
    · decide
    · exact hw s h
    · decide
  · exact hw s h
theorem words_le8 (p : Pt) : p.fine = true → ∀ s ∈ p.words, s.size ≤ 8 := by
  induction p with
  | num n =>
    intro h s hs
    simp only [Pt.fine, Bool.and_eq_true, decide_eq_true_eq] at h
    obtain rfl : s = decS n := by simpa [Pt.words] using hs
    have := decS_size7 h.2
    omega
  | name t =>
    intro h s hs
    obtain rfl : s = t := by simpa [Pt.words] using hs
    exact name_size8 h
  | two t a b ia ib =>
    intro h s hs
    simp only [Pt.fine, Bool.and_eq_true, decide_eq_true_eq] at h
    simp only [Pt.words, List.mem_append, List.mem_cons, List.not_mem_nil, or_false] at hs
    rcases hs with (hs | rfl) | hs
    · exact wrap_mem8 hs (ia h.2.1)
    · have := hold_size1 h.1; omega
    · exact wrap_mem8 hs (ib h.2.2)
  | «as» t a ia =>
    intro h s hs
    simp only [Pt.fine, Bool.and_eq_true] at h
    simp only [Pt.words, List.mem_append, List.mem_cons, List.not_mem_nil, or_false] at hs
    rcases hs with hs | rfl | rfl
    · exact wrap_mem8 hs (ia h.2)
    · decide
    · have := type_size4 h.1; omega
theorem wordsE_small (e : Ex) : (wordsE e).length ≤ 72 ∧ ∀ s ∈ wordsE e, s.size ≤ 8 := by
  unfold wordsE
  cases h : okP e with
  | none => exact ⟨by simp, fun s hs => by simp at hs⟩
  | some p =>
    have h2 := (okP_some h).2
    have h1 := p.words_length
    have h3 := words_le8 p (ok_fine h2)
    simp only [Pt.ok, Bool.and_eq_true, decide_eq_true_eq] at h2
    have h4 := h2.2.2
    exact ⟨by show p.words.length ≤ 72; omega, h3⟩
/-- Texts put behind a row of one's own that is no nil. -/
theorem wpList_appN {ops : Array Oper} {rest : List Oper} {o : Oper} {a : Act} {W : World} {Q : Exit → Act → World → Prop} (hgd : o.guard = none) (s x : Operand)
    (ho : o.op = .call { callee := .builtin .append, args := #[s, x], argTypes := #[27, 27] })
    (base gr n cap : Nat) (ss : List ByteArray) (hs : a.eval s = .slice (some ⟨gr, 0, none⟩) n cap) (hown : W.ownsRow base 9 1 (.slice (some ⟨gr, 0, none⟩) n cap) n (ss.map strV))
    (g off m cx : Nat) (ts : List ByteArray) (hx : a.eval x = .slice (some ⟨g, off, none⟩) m cx) (hm : ts.length = m) (hsrc : ∀ j u, (ts.map strV)[j]? = some u → W.cell? ⟨g, off + j, none⟩ = some u)
    (b1 : n + m ≤ 100000) (hbase : base ≤ W.heap.size)
    (h : ∀ gr' cap' w' n', Hid (n' = n + m ∧ w'.ownsRow base 9 1 (.slice (some ⟨gr', 0, none⟩) n' cap') n' ((ss ++ ts).map strV) ∧ W.grownBy w' (some gr)) → wpList Tryz.prog ops Q rest (a.put o.dst (.slice (some ⟨gr', 0, none⟩) n' cap')) w') : wpList Tryz.prog ops Q (o :: rest) a W := by
  obtain ⟨i0, hi, hzz⟩ := Option.map_eq_some_iff.1 infoS
  simp only [Prod.mk.injEq] at hzz
  obtain ⟨hz0, hz1, hz2⟩ := hzz
  refine wpList_append_own W hgd s x 27 ho base 9 i0 (.string ByteArray.empty) 1 16 Tryz.underlying27 hi hz0 hz1 hz2 rfl (by decide) _ n (ss.map strV) hs hown ⟨g, off, none⟩ m cx (ts.map strV) hx (by rw [List.length_map, hm, Nat.mul_one])
    (fun j u hj => by
      have hp : (⟨g, off, none⟩ : Addr).add j = ⟨g, off + j, none⟩ := by unfold Addr.add; split <;> simp_all
      rw [hp]; exact hsrc j u hj) (strs_oneS ts) (by unfold maxLen; omega) (by omega) hbase ?_
  intro v' w' q1 q2 q3
  rcases q1.2 with ⟨e, _⟩ | ⟨g', cap', cur, e, _⟩
  · have := (q3.1 e).1
    cases this
  · subst e
    refine h g' cap' w' _ (Lib.hid ⟨rfl, ?_, q2⟩)
    rw [List.map_append]
    exact q1
theorem own_grownG {W W' : World} {base G gr n cap : Nat} {t : TypeId} {xs : List Value} (h : W.ownsRow base t 1 (.slice (some ⟨gr, 0, none⟩) n cap) n xs) (hg : W.grownBy W' (some G)) (hne : gr ≠ G) : W'.ownsRow base t 1 (.slice (some ⟨gr, 0, none⟩) n cap) n xs := by
  refine ⟨h.1, ?_⟩
  rcases h.2 with h0 | ⟨g', cap', cur, h1, h2, h3, h4⟩
  · exact .inl h0
  · injection h1 with e1 e2 e3
    injection e1 with e1
    injection e1 with e1
    subst e1 e3
    exact .inr ⟨gr, cap, cur, rfl, h2, (hg.block gr (Array.getElem?_eq_some_iff.1 h3).1 (fun e => hne (by injection e))).trans h3, h4⟩
theorem own_blk {W : World} {base gr n cap : Nat} {t : TypeId} {xs : List Value} (h : W.ownsRow base t 1 (.slice (some ⟨gr, 0, none⟩) n cap) n xs) : base ≤ gr ∧ gr < W.heap.size := h.lt gr rfl
theorem sl_at {W : World} {g : Nat} {xs : List Value} (hg : g < W.heap.size) (h : ∀ j u, xs[j]? = some u → W.cell? ⟨g, 0 + j, none⟩ = some u) : SlIs W (some ⟨g, 0, none⟩) xs := .inr ⟨g, 0, rfl, hg, h⟩
theorem src_drop {W : World} {g d : Nat} {ws : List ByteArray} (h : ∀ j u, (ws.map strV)[j]? = some u → W.cell? ⟨g, 0 + j, none⟩ = some u) : ∀ j u, ((ws.drop d).map strV)[j]? = some u → W.cell? ⟨g, d + j, none⟩ = some u := by
  intro j u hu
  rw [List.map_drop, List.getElem?_drop] at hu
  have := h (d + j) u hu
  rwa [Nat.zero_add] at this
theorem src_none {W : World} {g d : Nat} {ws : List ByteArray} (hd : ws.length ≤ d) : ∀ j u, ((ws.drop d).map strV)[j]? = some u → W.cell? ⟨g, 0 + j, none⟩ = some u := by
  intro j u hu
  rw [List.drop_eq_nil_of_le hd] at hu
  simp at hu
theorem src_take {W : World} {g d : Nat} {ws : List ByteArray} (h : ∀ j u, (ws.map strV)[j]? = some u → W.cell? ⟨g, 0 + j, none⟩ = some u) : ∀ j u, ((ws.take d).map strV)[j]? = some u → W.cell? ⟨g, 0 + j, none⟩ = some u := by
  intro j u hu
  rw [List.map_take, List.getElem?_take] at hu
  split at hu
  · exact h j u hu
  · simp at hu
/-- Words were drawn. -/
def DrawnW (w : World) (r : Ending) (w' : World) : Prop :=
  ∃ (ss : List ByteArray) (A : Option Addr) (c : Nat), r = .returned (.slice A ss.length c) ∧ ss.length ≤ c ∧ SlIs w' A (ss.map strV) ∧ ss.length ≤ 200 ∧ (∀ s ∈ ss, s.size ≤ 8) ∧ Below w.heap.size w w'
set_option linter.unusedVariables false in
set_option linter.unusedSimpArgs false in
set_option maxRecDepth 100000 in
set_option maxHeartbeats 8000000 in
theorem drawExprRead_any (A : Option Addr) (len cap : Nat) (w : World) (h : InCode w A len cap) : Calls Tryz.prog 17 #[.slice A len cap] w (DrawnW w) := by
  have HO := Lib.hid (open_any A len cap w h)
  clear h
  go_enter Tryz.func17, Tryz.ntmps17
  go_wp2_with fail
  refine HO.out.mono ?_
  rintro r w1 ⟨A', len', cap', rfl, hrd1, hb1⟩
  have hz1 : w.heap.size < w1.heap.size := hrd1.lt
  have HB := Lib.hid (l4Bent_any w.heap.size w.heap.size A' len' cap' 0 w1 hrd1 (by omega))
  clear HO
  go_wp2_with fail
  refine HB.out.mono ?_
  rintro r w2 ⟨e, Ae, ce, rfl, hce, hOe, hSe, hwe, q2, hq2, hq2', hrd2, hgr2⟩
  have hz2 := hgr2.size
  have hb2 : Below w.heap.size w w2 := hb1.trans (grown_below hgr2 (Nat.le_refl _) (by omega))
  have HEW := Lib.hid (specExprWords_any e Ae ce w2.heap.size w2 (own_kids e _ _ Ae w2.heap.size hOe (Nat.le_refl _)) hce (Nat.le_refl _) (by omega))
  clear HB hrd1 hOe hSe hgr2
  go_wp2_with fail
  refine HEW.out.mono ?_
  rintro r w3 ⟨v, rfl, hv, hb3⟩
  have hrd3 := below_rd hrd2 hb3
  have hz3 := hb3.size
  have hbw3 : Below w.heap.size w w3 := hb2.trans (hb3.mono (by omega))
  obtain ⟨hwl, hws⟩ := wordsE_small e
  generalize wordsE e = ws at *
  clear HEW hce hwe hb3 hb2 hrd2
  by_cases h0 : ws.length = 0
  · obtain ⟨A5, c5, rfl, hc5⟩ := own_slice hv
    have HS := Lib.hid (SlIs.own hv)
    have q0 : ((ws.length : Int) == 0) = true := by rw [beq_iff_eq]; omega
    obtain rfl := List.length_eq_zero_iff.1 h0
    clear hv
    go_wp2_with fail
    go_ret
    exact ⟨[], A5, c5, rfl, hc5, HS.out, by simp, hws, hbw3⟩
  have q0 : ((ws.length : Int) == 0) = false := by rw [beq_eq_false_iff_ne]; omega
  obtain ⟨g5, c5, rfl, hg5⟩ := own_some hv (by omega)
  have hg5l := (own_blk hv).2
  obtain ⟨_, _, hcv, hc5⟩ := own_slice hv
  obtain rfl : c5 = _ := by injection hcv
  have H5 := Lib.hid (src_of (SlIs.own hv))
  have HP := Lib.hid (pick_any w.heap.size w.heap.size A' len' cap' q2 2 w3 hrd3 (by omega) (by omega) (by omega))
  have HWS := Lib.hid hws
  clear hv hrd3 hcv hws
  go_wp2_with fail
  refine HP.out.mono ?_
  rintro r w4 ⟨v, hv2, rfl, q4, hq4, hq4', hrd4, hgr4⟩
  have hz4 := hgr4.size
  have hbw4 := hbw3.trans (grown_below hgr4 (Nat.le_refl _) (by omega))
  replace H5 := Lib.hid (fun j u hj => (grown_cell hgr4 (p := ⟨g5, 0 + j, none⟩) hg5l (by show g5 ≠ w.heap.size; omega)).trans (H5.out j u hj))
  clear HP hgr4 hbw3
  by_cases hv0 : v = 0
  · have q1 : ((v : Int) == 0) = true := by rw [beq_iff_eq]; omega
    go_wp2_with fail
    go_ret
    exact ⟨ws, some ⟨g5, 0, none⟩, c5, rfl, hc5, sl_at (by omega) H5.out, by omega, HWS.out, hbw4⟩
  have q1 : ((v : Int) == 0) = false := by rw [beq_eq_false_iff_ne]; omega
  have HP := Lib.hid (pick_any w.heap.size w.heap.size A' len' cap' q4 ws.length w4 hrd4 (by omega) (by omega) (by omega))
  clear hrd4
  go_wp2_with fail
  refine HP.out.mono ?_
  rintro r w5 ⟨k, hk, rfl, q5, hq5, hq5', hrd5, hgr5⟩
  have hz5 := hgr5.size
  have hbw5 := hbw4.trans (grown_below hgr5 (Nat.le_refl _) (by omega))
  replace H5 := Lib.hid (fun j u hj => (grown_cell hgr5 (p := ⟨g5, 0 + j, none⟩) (by show g5 < _; omega) (by show g5 ≠ w.heap.size; omega)).trans (H5.out j u hj))
  obtain ⟨W6, hW6⟩ : ∃ W6, W6 = w5.alloc (.cells #[] 9) := ⟨_, rfl⟩
  have hb6 : Below w5.heap.size w5 W6 := by rw [hW6]; exact (Below.refl _ w5).alloc (Nat.le_refl _) _
  have hz6 : W6.heap.size = w5.heap.size + 1 := by rw [hW6]; simp
  have hO6 : W6.ownsRow w5.heap.size 9 1 (.slice (some ⟨w5.heap.size, 0, none⟩) 0 0) 0 [] := by rw [hW6]; exact ownsRow_empty w5 9
  have HP6 := Lib.hid (pick_any w.heap.size w.heap.size A' len' cap' q5 2 W6 (below_rd hrd5 hb6) (by omega) (by omega) (by omega))
  have HO6 := Lib.hid hO6
  have HB6 := Lib.hid hb6
  have HZ6 := Lib.hid hz6
  clear HP hgr5 hbw4 hrd5 hb6 hO6 hz6
  go_wp2_with fail
  rw [← hW6]
  clear hW6
  refine HP6.out.mono ?_
  rintro r w7 ⟨b, hb, rfl, q7, hq7, hq7', hrd7, hgr7⟩
  have hz7 := hgr7.size
  have hz6 := HZ6.out
  have HO7 := Lib.hid (own_grownG HO6.out hgr7 (by omega))
  have hbw7 := (hbw5.trans (HB6.out.mono (by omega))).trans (grown_below hgr7 (Nat.le_refl _) (by omega))
  replace H5 := Lib.hid (fun j u hj => (grown_cell hgr7 (p := ⟨g5, 0 + j, none⟩) (by show g5 < _; omega) (by show g5 ≠ w.heap.size; omega)).trans ((HB6.out.cell (p := ⟨g5, 0 + j, none⟩) (by show g5 < _; omega)).trans (H5.out j u hj)))
  clear HP6 HO6 HB6 HZ6 hgr7
  have HR7 := Lib.hid hrd7
  clear hrd7
  by_cases hcb : c5 = k + b
  · go_wp2_with (at_builtin; refine wpList_appN rfl _ _ rfl w5.heap.size w5.heap.size 0 0 [] rfl HO7.out g5 0 (ws.length - (k + b)) (k + b - (k + b)) (ws.drop (k + b)) rfl List.length_drop (src_none (by omega)) (by omega) (by omega) ?_)
    intro gr8 cap8 w8 n8 hQ
    obtain ⟨hn8, hO8, hG8⟩ := hQ.out
    clear hQ
    replace hO8 : w8.ownsRow w5.heap.size 9 1 (.slice (some ⟨gr8, 0, none⟩) n8 cap8) n8 ((ws.drop (k + b)).map strV) := by simpa using hO8
    have hz8 := hG8.size
    have hl8 := own_blk hO8
    obtain rfl : n8 = ws.length - (k + b) := by omega
    have hrd8 := Rd.kept HR7.out (v := .slice (some ⟨w5.heap.size, 0, none⟩) 0 0) hG8 (by simp [Value.ownBlock]; omega) HO7.out (by omega)
    have hbw8 := hbw7.trans (grown_below hG8 (B := w.heap.size) (by omega) (by omega))
    have H58 := Lib.hid (fun j u hj => (grown_cell hG8 (p := ⟨g5, 0 + j, none⟩) (by show g5 < _; omega) (by show g5 ≠ w5.heap.size; omega)).trans (H5.out j u hj))
    have HO9 := Lib.hid (ownsRow_empty w8 9)
    have HSR9 := Lib.hid (src_take (d := k) (fun j u hj => (((Below.refl _ w8).alloc (Nat.le_refl _) (.cells #[] 9)).cell (p := ⟨g5, 0 + j, none⟩) (by show g5 < w8.heap.size; omega)).trans (H58.out j u hj)))
    have HR8 := Lib.hid hrd8
    have HO8 := Lib.hid hO8
    clear HR7 HO7 hO8 hG8 hrd8 hbw7 H5
    go_wp2_with (at_builtin; refine wpList_appN rfl _ _ rfl w8.heap.size w8.heap.size 0 0 [] rfl HO9.out g5 0 k _ (ws.take k) rfl (by rw [List.length_take]; omega) HSR9.out (by omega) (by simp) ?_)
    intro gr10 cap10 w10 n10 hQ
    obtain ⟨hn10, hO10, hG10⟩ := hQ.out
    clear hQ
    replace hO10 : w10.ownsRow w8.heap.size 9 1 (.slice (some ⟨gr10, 0, none⟩) n10 cap10) n10 ((ws.take k).map strV) := by simpa using hO10
    obtain rfl : k = n10 := by omega
    have hz10 := hG10.size
    have hl10 := own_blk hO10
    have hz9 : (w8.alloc (.cells #[] 9)).heap.size = w8.heap.size + 1 := by simp
    have hO8a := own_grownG (HO8.out.alloc (.cells #[] 9)) hG10 (by omega)
    have hrd10 := Rd.kept (HR8.out.alloc (.cells #[] 9)) (v := .slice (some ⟨w8.heap.size, 0, none⟩) 0 0) hG10 (by simp [Value.ownBlock]; omega) HO9.out (by omega)
    have hbw10 := (hbw8.alloc (by omega) (.cells #[] 9)).trans (grown_below hG10 (B := w.heap.size) (by omega) (by omega))
    have HOF := Lib.hid (of_lit [⟨#[40]⟩, ⟨#[41]⟩, ⟨#[43]⟩, ⟨#[120]⟩, ⟨#[97, 115]⟩, ⟨#[49]⟩, ⟨#[60]⟩] w.heap.size w.heap.size A' len' cap' q7 w10 hrd10 (by omega) (by simp) (by simp))
    have HO10 := Lib.hid hO10
    have HO8b := Lib.hid hO8a
    clear HO9 HSR9 HR8 HO8 hO10 hG10 hrd10 hO8a hbw8 H58
    go_wp2_with fail
    refine HOF.out.mono ?_
    rintro r w11 ⟨s, hs, rfl, q11, hq11, hq11', hrd11, hgr11⟩
    have hz11 := hgr11.size
    have hs2 : s.size ≤ 4 := short_of (by decide) hs
    have hO10a := own_grownG HO10.out hgr11 (by omega)
    have hO8c := own_grownG HO8b.out hgr11 (by omega)
    have hbw11 := hbw10.trans (grown_below hgr11 (Nat.le_refl _) (by omega))
    have HO12 := Lib.hid (hO10a.alloc (.cells #[.string s] 9))
    have HO8d := Lib.hid (hO8c.alloc (.cells #[.string s] 9))
    have HS1 := Lib.hid (src_oneS w11 s)
    clear HOF hs hrd11 hgr11 HO10 HO8b hO10a hO8c hbw10
    go_wp2_with (at_builtin; refine wpList_appN rfl _ _ rfl w8.heap.size gr10 k cap10 (ws.take k) rfl HO12.out w11.heap.size 0 1 1 [s] rfl rfl HS1.out (by omega) (by simp; omega) ?_)
    intro gr13 cap13 w13 n13 hQ
    obtain ⟨hn13, hO13, hG13⟩ := hQ.out
    clear hQ
    replace hO13 : w13.ownsRow w8.heap.size 9 1 (.slice (some ⟨gr13, 0, none⟩) n13 cap13) n13 ((ws.take k ++ [s]).map strV) := by simpa using hO13
    obtain rfl : n13 = k + 1 := by omega
    have hz13 := hG13.size
    have hl13 := own_blk hO13
    have hz12 : (w11.alloc (.cells #[.string s] 9)).heap.size = w11.heap.size + 1 := by simp
    have hO8e := own_grownG HO8d.out hG13 (by omega)
    have hbw13 := (hbw11.alloc (by omega) (.cells #[.string s] 9)).trans (grown_below hG13 (B := w.heap.size) (by omega) (by omega))
    have HO13 := Lib.hid hO13
    have HS8 := Lib.hid (src_of (SlIs.own hO8e))
    clear HO12 HO8d HS1 hO13 hG13 hO8e hbw11
    go_wp2_with (at_builtin; refine wpList_appN rfl _ _ rfl w8.heap.size gr13 (k + 1) cap13 (ws.take k ++ [s]) rfl HO13.out gr8 0 (ws.length - (k + b)) cap8 (ws.drop (k + b)) rfl List.length_drop HS8.out (by omega) (by omega) ?_)
    intro gr14 cap14 w14 n14 hQ
    obtain ⟨hn14, hO14, hG14⟩ := hQ.out
    clear hQ
    replace hO14 : w14.ownsRow w8.heap.size 9 1 (.slice (some ⟨gr14, 0, none⟩) n14 cap14) n14 (((ws.take k ++ [s]) ++ ws.drop (k + b)).map strV) := by simpa using hO14
    have hbw14 := hbw13.trans (grown_below hG14 (B := w.heap.size) (by omega) (by omega))
    obtain rfl : n14 = ((ws.take k ++ [s]) ++ ws.drop (k + b)).length := by
      simp only [List.length_append, List.length_take, List.length_drop, List.length_cons, List.length_nil]
      omega
    have HO14 := Lib.hid hO14
    clear HO13 HS8 hO14 hG14 hbw13
    go_wp2_with fail
    go_ret
    obtain ⟨_, _, hcv, hcc⟩ := own_slice HO14.out
    obtain rfl : cap14 = _ := by injection hcv
    refine ⟨(ws.take k ++ [s]) ++ ws.drop (k + b), some ⟨gr14, 0, none⟩, cap14, rfl, hcc, SlIs.own HO14.out, ?_, ?_, hbw14⟩
    · simp only [List.length_append, List.length_take, List.length_drop, List.length_cons, List.length_nil]
      omega
    · intro t ht
      simp only [List.mem_append, List.mem_cons, List.not_mem_nil, or_false] at ht
      rcases ht with (ht | rfl) | ht
      · exact HWS.out t (List.mem_of_mem_take ht)
      · omega
      · exact HWS.out t (List.mem_of_mem_drop ht)
  · go_wp2_with (at_builtin; refine wpList_appN rfl _ _ rfl w5.heap.size w5.heap.size 0 0 [] rfl HO7.out g5 (k + b) (ws.length - (k + b)) (c5 - (k + b)) (ws.drop (k + b)) rfl List.length_drop (src_drop H5.out) (by omega) (by omega) ?_)
    intro gr8 cap8 w8 n8 hQ
    obtain ⟨hn8, hO8, hG8⟩ := hQ.out
    clear hQ
    replace hO8 : w8.ownsRow w5.heap.size 9 1 (.slice (some ⟨gr8, 0, none⟩) n8 cap8) n8 ((ws.drop (k + b)).map strV) := by simpa using hO8
    have hz8 := hG8.size
    have hl8 := own_blk hO8
    obtain rfl : n8 = ws.length - (k + b) := by omega
    have hrd8 := Rd.kept HR7.out (v := .slice (some ⟨w5.heap.size, 0, none⟩) 0 0) hG8 (by simp [Value.ownBlock]; omega) HO7.out (by omega)
    have hbw8 := hbw7.trans (grown_below hG8 (B := w.heap.size) (by omega) (by omega))
    have H58 := Lib.hid (fun j u hj => (grown_cell hG8 (p := ⟨g5, 0 + j, none⟩) (by show g5 < _; omega) (by show g5 ≠ w5.heap.size; omega)).trans (H5.out j u hj))
    have HO9 := Lib.hid (ownsRow_empty w8 9)
    have HSR9 := Lib.hid (src_take (d := k) (fun j u hj => (((Below.refl _ w8).alloc (Nat.le_refl _) (.cells #[] 9)).cell (p := ⟨g5, 0 + j, none⟩) (by show g5 < w8.heap.size; omega)).trans (H58.out j u hj)))
    have HR8 := Lib.hid hrd8
    have HO8 := Lib.hid hO8
    clear HR7 HO7 hO8 hG8 hrd8 hbw7 H5
    go_wp2_with (at_builtin; refine wpList_appN rfl _ _ rfl w8.heap.size w8.heap.size 0 0 [] rfl HO9.out g5 0 k _ (ws.take k) rfl (by rw [List.length_take]; omega) HSR9.out (by omega) (by simp) ?_)
    intro gr10 cap10 w10 n10 hQ
    obtain ⟨hn10, hO10, hG10⟩ := hQ.out
    clear hQ
    replace hO10 : w10.ownsRow w8.heap.size 9 1 (.slice (some ⟨gr10, 0, none⟩) n10 cap10) n10 ((ws.take k).map strV) := by simpa using hO10
    obtain rfl : k = n10 := by omega
    have hz10 := hG10.size
    have hl10 := own_blk hO10
    have hz9 : (w8.alloc (.cells #[] 9)).heap.size = w8.heap.size + 1 := by simp
    have hO8a := own_grownG (HO8.out.alloc (.cells #[] 9)) hG10 (by omega)
    have hrd10 := Rd.kept (HR8.out.alloc (.cells #[] 9)) (v := .slice (some ⟨w8.heap.size, 0, none⟩) 0 0) hG10 (by simp [Value.ownBlock]; omega) HO9.out (by omega)
    have hbw10 := (hbw8.alloc (by omega) (.cells #[] 9)).trans (grown_below hG10 (B := w.heap.size) (by omega) (by omega))
    have HOF := Lib.hid (of_lit [⟨#[40]⟩, ⟨#[41]⟩, ⟨#[43]⟩, ⟨#[120]⟩, ⟨#[97, 115]⟩, ⟨#[49]⟩, ⟨#[60]⟩] w.heap.size w.heap.size A' len' cap' q7 w10 hrd10 (by omega) (by simp) (by simp))
    have HO10 := Lib.hid hO10
    have HO8b := Lib.hid hO8a
    clear HO9 HSR9 HR8 HO8 hO10 hG10 hrd10 hO8a hbw8 H58
    go_wp2_with fail
    refine HOF.out.mono ?_
    rintro r w11 ⟨s, hs, rfl, q11, hq11, hq11', hrd11, hgr11⟩
    have hz11 := hgr11.size
    have hs2 : s.size ≤ 4 := short_of (by decide) hs
    have hO10a := own_grownG HO10.out hgr11 (by omega)
    have hO8c := own_grownG HO8b.out hgr11 (by omega)
    have hbw11 := hbw10.trans (grown_below hgr11 (Nat.le_refl _) (by omega))
    have HO12 := Lib.hid (hO10a.alloc (.cells #[.string s] 9))
    have HO8d := Lib.hid (hO8c.alloc (.cells #[.string s] 9))
    have HS1 := Lib.hid (src_oneS w11 s)
    clear HOF hs hrd11 hgr11 HO10 HO8b hO10a hO8c hbw10
    go_wp2_with (at_builtin; refine wpList_appN rfl _ _ rfl w8.heap.size gr10 k cap10 (ws.take k) rfl HO12.out w11.heap.size 0 1 1 [s] rfl rfl HS1.out (by omega) (by simp; omega) ?_)
    intro gr13 cap13 w13 n13 hQ
    obtain ⟨hn13, hO13, hG13⟩ := hQ.out
    clear hQ
    replace hO13 : w13.ownsRow w8.heap.size 9 1 (.slice (some ⟨gr13, 0, none⟩) n13 cap13) n13 ((ws.take k ++ [s]).map strV) := by simpa using hO13
    obtain rfl : n13 = k + 1 := by omega
    have hz13 := hG13.size
    have hl13 := own_blk hO13
    have hz12 : (w11.alloc (.cells #[.string s] 9)).heap.size = w11.heap.size + 1 := by simp
    have hO8e := own_grownG HO8d.out hG13 (by omega)
    have hbw13 := (hbw11.alloc (by omega) (.cells #[.string s] 9)).trans (grown_below hG13 (B := w.heap.size) (by omega) (by omega))
    have HO13 := Lib.hid hO13
    have HS8 := Lib.hid (src_of (SlIs.own hO8e))
    clear HO12 HO8d HS1 hO13 hG13 hO8e hbw11
    go_wp2_with (at_builtin; refine wpList_appN rfl _ _ rfl w8.heap.size gr13 (k + 1) cap13 (ws.take k ++ [s]) rfl HO13.out gr8 0 (ws.length - (k + b)) cap8 (ws.drop (k + b)) rfl List.length_drop HS8.out (by omega) (by omega) ?_)
    intro gr14 cap14 w14 n14 hQ
    obtain ⟨hn14, hO14, hG14⟩ := hQ.out
    clear hQ
    replace hO14 : w14.ownsRow w8.heap.size 9 1 (.slice (some ⟨gr14, 0, none⟩) n14 cap14) n14 (((ws.take k ++ [s]) ++ ws.drop (k + b)).map strV) := by simpa using hO14
    have hbw14 := hbw13.trans (grown_below hG14 (B := w.heap.size) (by omega) (by omega))
    obtain rfl : n14 = ((ws.take k ++ [s]) ++ ws.drop (k + b)).length := by
      simp only [List.length_append, List.length_take, List.length_drop, List.length_cons, List.length_nil]
      omega
    have HO14 := Lib.hid hO14
    clear HO13 HS8 hO14 hG14 hbw13
    go_wp2_with fail
    go_ret
    obtain ⟨_, _, hcv, hcc⟩ := own_slice HO14.out
    obtain rfl : cap14 = _ := by injection hcv
    refine ⟨(ws.take k ++ [s]) ++ ws.drop (k + b), some ⟨gr14, 0, none⟩, cap14, rfl, hcc, SlIs.own HO14.out, ?_, ?_, hbw14⟩
    · simp only [List.length_append, List.length_take, List.length_drop, List.length_cons, List.length_nil]
      omega
    · intro t ht
      simp only [List.mem_append, List.mem_cons, List.not_mem_nil, or_false] at ht
      rcases ht with (ht | rfl) | ht
      · exact HWS.out t (List.mem_of_mem_take ht)
      · omega
      · exact HWS.out t (List.mem_of_mem_drop ht)
end Go.Proofs.YtodioplkgjpcjaaGreatDoor
