/-
  The contract of the model's l4Words at two parts with a mark.
-/
import Derived.Test.YtaclndbilpaboaaDoorSpecWords3
namespace Go.Proofs.YtaclndbilpaboaaDoor
open Go.RowKit

/-- A row of texts, in another block than gr. -/
def RowD (X : World) (gr g : Nat) (xs : List ByteArray) : Prop := g < X.heap.size ∧ gr ≠ g ∧ ∀ j u, (xs.map strV)[j]? = some u → X.cell? ((⟨g, 0, none⟩ : Addr).add j) = some u
theorem RowD.below {X Y : World} {gr g : Nat} {xs : List ByteArray} (h : RowD X gr g xs) (hb : Below X.heap.size X Y) : RowD Y gr g xs :=
  ⟨Nat.lt_of_lt_of_le h.1 hb.size, h.2.1, fun j u hj => (hb.cell (by rw [addr_block]; exact h.1)).trans (h.2.2 j u hj)⟩
theorem RowD.grown {Y Z : World} {gr gr' g : Nat} {xs : List ByteArray} (h : RowD Y gr g xs) (hg : Y.grownBy Z (some gr)) (hor : gr' = gr ∨ gr' = Y.heap.size) : RowD Z gr' g xs := by
  refine ⟨Nat.lt_of_lt_of_le h.1 hg.size, ?_, fun j u hj => (hg.cell_far _ (by rw [addr_block]; exact h.1) (by rw [addr_block]; exact fun e => h.2.1 (Option.some.inj e).symm)).trans (h.2.2 j u hj)⟩
  rcases hor with rfl | rfl
  · exact h.2.1
  · have := h.1; omega
theorem rowD_new (X : World) (gr : Nat) (s : ByteArray) (t : TypeId) (h : gr < X.heap.size) : RowD (X.alloc (.cells #[.string s] t)) gr X.heap.size [s] :=
  ⟨by simp, by omega, fun j u hj => cell_one_new X (.string s) t j u (by simpa [strV] using hj)⟩
/-- A row of one's own in block gr. -/
def OwnR (X : World) (B gr n cap : Nat) (xs : List ByteArray) : Prop := B ≤ gr ∧ gr < X.heap.size ∧ X.ownsRow B 9 1 (.slice (some ⟨gr, 0, none⟩) n cap) n (xs.map strV)
theorem OwnR.below {X Y : World} {B gr n cap : Nat} {xs : List ByteArray} (h : OwnR X B gr n cap xs) (hb : Below X.heap.size X Y) : OwnR Y B gr n cap xs :=
  ⟨h.1, Nat.lt_of_lt_of_le h.2.1 hb.size, own_below h.2.2 hb⟩
theorem rowD_at {X Y : World} {s : ByteArray} {t : TypeId} {B gr n cap : Nat} {xs : List ByteArray} (hY : Y = X.alloc (.cells #[.string s] t)) (ho : OwnR X B gr n cap xs) : RowD Y gr X.heap.size [s] := by rw [hY]; exact rowD_new X gr s t ho.2.1
theorem rowD_at_drew {X Y : World} {s : ByteArray} {t : TypeId} {B gr n cap : Nat} {xs : List ByteArray} (hY : Y = (X.alloc (.cells #[.string s] t)).drew) (ho : OwnR X B gr n cap xs) : RowD Y gr X.heap.size [s] := by rw [hY]; exact rowD_new X gr s t ho.2.1
theorem rowD_at_drew' {X Y : World} {s : ByteArray} {t : TypeId} {B gr n cap : Nat} {xs : List ByteArray} (hY : Y = X.drew.alloc (.cells #[.string s] t)) (ho : OwnR X B gr n cap xs) : RowD Y gr X.heap.size [s] := by rw [hY]; exact rowD_new X gr s t ho.2.1
theorem own_lit (X : World) (v : Value) (t : TypeId) : (X.alloc (.cells #[v] t)).ownsRow X.heap.size t 1 (.slice (some ⟨X.heap.size, 0, none⟩) 1 1) 1 [v] :=
  ⟨rfl, .inr ⟨X.heap.size, 1, #[v], rfl, Nat.le_refl _, World.alloc_heap_new X _, Nat.le_refl _, by simp [maxLen], rfl, rfl⟩⟩
theorem below_lit {X w3 : World} {o : Obj} (hg : (X.alloc o).grownBy w3 (Value.slice (some ⟨X.heap.size, 0, none⟩) 1 1).ownBlock) : Below X.heap.size X w3 :=
  ((Below.refl _ X).alloc (Nat.le_refl _) o).grown hg (by simp) (fun j e => by obtain rfl : X.heap.size = j := (by simpa [Value.ownBlock] using e); exact Nat.le_refl _)
theorem ownsRow_raise {w : World} {B C g n c : Nat} {t : TypeId} {xs : List Value} (h : w.ownsRow B t 1 (.slice (some ⟨g, 0, none⟩) n c) n xs) (hC : C ≤ g) : w.ownsRow C t 1 (.slice (some ⟨g, 0, none⟩) n c) n xs := by
  refine ⟨h.1, ?_⟩
  rcases h.2 with h0 | ⟨g', cap, cur, h1, h2, h3⟩
  · exact .inl h0
  · injection h1 with e1 e2 e3
    injection e1 with e1
    injection e1 with e1
    subst e1 e3
    exact .inr ⟨_, _, cur, rfl, hC, h3⟩
/-- append onto such a row, as a step of a region that draws. -/
theorem step_ownR {ops : Array Oper} {o : Oper} {a : Act} {Y : World} {K : Act → World → Prop} {Q : Exit → Act → World → Prop} {E : Prop}
    (hg : o.guard = none) (s x : Operand) (hop : o.op = Op.call { callee := Callee.builtin Builtin.append, args := #[s, x], argTypes := #[33, 33] })
    (B gr n cap : Nat) (xs : List ByteArray) (hown : OwnR Y B gr n cap xs) (hs : a.eval s = .slice (some ⟨gr, 0, none⟩) n cap)
    (g m c : Nat) (ys : List ByteArray) (hrow : RowD Y gr g ys) (hx : a.eval x = .slice (some ⟨g, 0, none⟩) m c) (hm : ys.length = m) (b1 : n + m ≤ 100000) (hpos : 1 ≤ n + m) (hB : B ≤ Y.heap.size)
    (hK : ∀ gr' cap' Z, OwnR Z B gr' (n + m) cap' (xs ++ ys) → Y.grownBy Z (some gr) → (gr' = gr ∨ gr' = Y.heap.size) → K (a.put o.dst (.slice (some ⟨gr', 0, none⟩) (n + m) cap')) Z) :
    if Region.wanted o (yielded ops a.tmps) = true then Oper.wp Tryd.prog o a Y K Q else E := by
  obtain ⟨i0, hi, hz0, hz1, hz2⟩ := info_parts infoStr
  have hw : Region.wanted o (yielded ops a.tmps) = true := by simp [Region.wanted, hg]
  rw [if_pos hw]
  obtain ⟨v', w', hrun, r1, r2, _, r4⟩ := run_append_own_at (P := Tryd.prog) Y B 33 o.type 9 i0 (.string ByteArray.empty) 1 16 Tryd.underlying33 hi hz0 hz1 hz2 rfl (by decide) _ n (xs.map strV) hown.2.2 ⟨g, 0, none⟩ m c (ys.map strV) (by rw [List.length_map]; omega) hrow.2.2 (strs_one ys) (by unfold maxLen; omega) (by omega) hB
  obtain ⟨g', cap', rfl, _⟩ := own_some r1 hpos
  have r5 : g' < w'.heap.size := by
    rcases r1.2 with ⟨_, h0⟩ | ⟨g2, _, _, hv, _, hgb, _⟩
    · omega
    · injection hv with h1
      injection h1 with h1
      injection h1 with h1
      subst h1
      exact (Array.getElem?_eq_some_iff.1 hgb).1
  unfold Oper.wp
  simp [execOp, hop, resolve, invoke, builtin, hs, hx, hrun, Result.andThen]
  have r6 : g' = gr ∨ g' = Y.heap.size := by
    rcases r4 with h | h <;> simp [Value.ownBlock] at h
    · exact .inl h
    · exact .inr h
  exact hK g' cap' w' ⟨by have := hown.1; rcases r6 with h | h <;> omega, r5, by rw [List.map_append]; exact r1⟩ r2 r6
theorem calls_named {f : Nat} {args : Array Value} {Y : World} {R : Ending → World → Prop} (h : ∀ Z, Z = Y → Calls Tryd.prog f args Z R) : Calls Tryd.prog f args Y R := h Y rfl
theorem cut_node {G R : Prop} (main : G → R) (pf : G) : R := main pf
/-- The world at hand, under a name. -/
theorem wp_named {ops : Array Oper} {o : Oper} {a : Act} {Y : World} {K : Act → World → Prop} {Q : Exit → Act → World → Prop} {E : Prop}
    (h : ∀ Z, Z = Y → if Region.wanted o (yielded ops a.tmps) = true then Oper.wp Tryd.prog o a Z K Q else E) : if Region.wanted o (yielded ops a.tmps) = true then Oper.wp Tryd.prog o a Y K Q else E := h Y rfl
theorem Pt.at_bound (p : Pt) (t : Nat) (h : p.nodes ≤ 900) : (p.at t).length ≤ 6000 := by
  have h1 := p.words_length
  have h2 := wrapW_length (decide (p.lvl < t)) p.words
  unfold Pt.at
  omega
/-- What a call that writes words hands back. -/
theorem wordy_row {xs ys : List ByteArray} {Y Z : World} {r : Ending} {B gr n c : Nat} (hx : 1 ≤ xs.length) (h : Wordy xs Y r Z) (ho : OwnR Y B gr n c ys) : ∃ g cap, r = .returned (.slice (some ⟨g, 0, none⟩) xs.length cap) ∧ RowD Z gr g xs ∧ Below Y.heap.size Y Z := by
  obtain ⟨g, cap, e, h1, h2, h3, h4⟩ := wordy_some hx h
  have := ho.2.1
  exact ⟨g, cap, e, ⟨h2, by omega, h3⟩, h4⟩

set_option linter.unusedSimpArgs false in
set_option maxRecDepth 100000 in
set_option maxHeartbeats 16000000 in
theorem l4Words_two (s : ByteArray) (a b : Pt) (hf : (Pt.two s a b).fine = true) (hna : a.nodes ≤ 900) (hnb : b.nodes ≤ 900) (ia : SWords a) (ib : SWords b) : SWords (.two s a b) := by
  intro A c B w tight hA hc hB ht
  have hh : hold s ≠ 0 := by
    simp only [Pt.fine, Bool.and_eq_true, decide_eq_true_eq] at hf
    exact hf.1
  have hh3 := hold_le s
  have HP := Lib.hid (show (Pt.two s a b).at tight = wrapW (decide (hold s < tight)) (a.at (max (hold s) 2) ++ [s] ++ b.at (hold s + 1)) from rfl)
  have HL := Lib.hid (fun W => show Calls Tryd.prog 40 #[.agg #[.int .i64 3, .int .i64 0, .string s, .slice A 2 c]] W (fun e w' => e = .returned (.int .i64 (hold s : Int)) ∧ Below W.heap.size W w') from l4Level_any (.two s a b) hf A 2 c W)
  simp only [Pt.ex, Ex.kind, Ex.n, Ex.s, Ex.kids, List.length_cons, List.length_nil, Nat.zero_add] at hA hc ⊢
  obtain ⟨g0, off, D0, cc0, e0, hg0, kid0⟩ := hA.at_ (j := 0) (by simp)
  obtain ⟨g1, off1, D1, cc1, e1, hg1, kid1⟩ := hA.at_ (j := 1) (by simp)
  subst e0
  injection e1 with e1
  injection e1 with e1 e2
  subst e1 e2
  obtain ⟨a0, a1, a2, a3, a4, a5⟩ := kid0
  obtain ⟨b0, b1, b2, b3, b4, b5⟩ := kid1
  simp only [List.getElem_cons_zero, List.getElem_cons_succ, Nat.zero_mul, Nat.one_mul, Nat.add_zero, Nat.add_assoc, Nat.reduceAdd] at a0 a1 a2 a3 a4 a5 b0 b1 b2 b3 b4 b5
  obtain ⟨k, hk⟩ : ∃ k, k = hold s := ⟨_, rfl⟩
  obtain ⟨lf, hlf⟩ : ∃ lf, lf = max k 2 := ⟨_, rfl⟩
  have hla := a.at_pos lf
  have hlb := b.at_pos (k + 1)
  have hba := a.at_bound lf hna
  have hbb := b.at_bound (k + 1) hnb
  have HI := Lib.hid (fun (W : World) (hW : Below w.heap.size w W) => ia D0 cc0 B W lf (a5.keep (hW.mono hB)) a4 (Nat.le_trans hB hW.size) (by omega))
  have HJ := Lib.hid (fun (W : World) (hW : Below w.heap.size w W) => ib D1 cc1 B W (k + 1) (b5.keep (hW.mono hB)) b4 (Nat.le_trans hB hW.size) (by omega))
  rw [← hk, ← hlf] at HP
  rw [← hk] at HL
  generalize (Pt.two s a b).at tight = R at *
  generalize a.at lf = ws at *
  generalize b.at (k + 1) = vs at *
  rw [show ((k + 1 : Nat) : Int) = (k : Int) + 1 by omega] at HJ
  obtain ⟨W2, hW2, hb2, hs2, hcs, HO⟩ := two_new w #[.int .i64 3, .int .i64 0, .string s, .slice (some ⟨g0, off, none⟩) 2 c]
  have HO := Lib.hid HO
  have HCS := Lib.hid hcs
  have hlt : w.heap.size < W2.heap.size := by omega
  have hltg : g0 < w.heap.size := by omega
  have hk1 : 1 ≤ k := by omega
  have hk3 : k ≤ 3 := by omega
  clear hcs ia ib hA a5 b5 hk hh hh3 hf hna hnb
  generalize a.ex = x at *
  generalize b.ex = y at *
  go_enter Tryd.func28, Tryd.ntmps28
  go_wp2_with fail
  rw [← hW2]
  refine (HL.out _).mono ?_
  rintro r w1 ⟨rfl, hb1⟩
  have B1 := hb2.trans (hb1.mono hb2.size)
  have hz1 := hb1.size
  have HS := Lib.hid (show ∀ W, Below (w.heap.size + 1) w1 W → W.cell? ⟨w.heap.size, 0, none⟩ = some (.int .i64 3) ∧ W.cell? ⟨w.heap.size, 2, none⟩ = some (.string s) ∧ W.cell? ⟨w.heap.size, 3, none⟩ = some (.slice (some ⟨g0, off, none⟩) 2 c) ∧ W.cell? ⟨g0, off, none⟩ = some (.int .i64 x.kind) ∧ W.cell? ⟨g0, off + 1, none⟩ = some (.int .i64 x.n) ∧ W.cell? ⟨g0, off + 2, none⟩ = some (.string x.s) ∧ W.cell? ⟨g0, off + 3, none⟩ = some (.slice D0 x.kids.length cc0) ∧ W.cell? ⟨g0, off + 4, none⟩ = some (.int .i64 y.kind) ∧ W.cell? ⟨g0, off + 5, none⟩ = some (.int .i64 y.n) ∧ W.cell? ⟨g0, off + 6, none⟩ = some (.string y.s) ∧ W.cell? ⟨g0, off + 7, none⟩ = some (.slice D1 y.kids.length cc1) ∧ Below (w.heap.size + 1) w1 W from fun W hW =>
    ⟨(hW.cell (p := ⟨w.heap.size, 0, none⟩) (Nat.lt_succ_self _)).trans ((hb1.cell (p := ⟨w.heap.size, 0, none⟩) hlt).trans (HCS.out 0 _ rfl)),
     (hW.cell (p := ⟨w.heap.size, 2, none⟩) (Nat.lt_succ_self _)).trans ((hb1.cell (p := ⟨w.heap.size, 2, none⟩) hlt).trans (HCS.out 2 _ rfl)),
     (hW.cell (p := ⟨w.heap.size, 3, none⟩) (Nat.lt_succ_self _)).trans ((hb1.cell (p := ⟨w.heap.size, 3, none⟩) hlt).trans (HCS.out 3 _ rfl)),
     (hW.cell (p := ⟨g0, off, none⟩) (Nat.lt_succ_of_lt hltg)).trans ((B1.cell (p := ⟨g0, off, none⟩) hltg).trans a0),
     (hW.cell (p := ⟨g0, off + 1, none⟩) (Nat.lt_succ_of_lt hltg)).trans ((B1.cell (p := ⟨g0, off + 1, none⟩) hltg).trans a1),
     (hW.cell (p := ⟨g0, off + 2, none⟩) (Nat.lt_succ_of_lt hltg)).trans ((B1.cell (p := ⟨g0, off + 2, none⟩) hltg).trans a2),
     (hW.cell (p := ⟨g0, off + 3, none⟩) (Nat.lt_succ_of_lt hltg)).trans ((B1.cell (p := ⟨g0, off + 3, none⟩) hltg).trans a3),
     (hW.cell (p := ⟨g0, off + 4, none⟩) (Nat.lt_succ_of_lt hltg)).trans ((B1.cell (p := ⟨g0, off + 4, none⟩) hltg).trans b0),
     (hW.cell (p := ⟨g0, off + 5, none⟩) (Nat.lt_succ_of_lt hltg)).trans ((B1.cell (p := ⟨g0, off + 5, none⟩) hltg).trans b1),
     (hW.cell (p := ⟨g0, off + 6, none⟩) (Nat.lt_succ_of_lt hltg)).trans ((B1.cell (p := ⟨g0, off + 6, none⟩) hltg).trans b2),
     (hW.cell (p := ⟨g0, off + 7, none⟩) (Nat.lt_succ_of_lt hltg)).trans ((B1.cell (p := ⟨g0, off + 7, none⟩) hltg).trans b3), hW⟩)
  obtain ⟨d0, d2, d3, y0, y1, y2, y3, y4, y5, y6, y7, _⟩ := HS.out w1 (Below.refl _ w1)
  have HOX := Lib.hid (show OwnR w1 (w.heap.size + 1) (w.heap.size + 1) 0 0 [] from ⟨Nat.le_refl _, by omega, own_below (ownsRow_raise HO.out (Nat.le_refl _)) hb1⟩)
  have hw1 : w.heap.size + 1 ≤ w1.heap.size := by omega
  obtain ⟨X, hX⟩ : ∃ X, X = w1 := ⟨_, rfl⟩
  rw [← hX] at HOX d0 d2 d3 y0 y1 y2 y3 y4 y5 y6 y7
  have BX : Below (w.heap.size + 1) w1 X := by rw [hX]; exact Below.refl _ _
  clear hW2 a0 a1 a2 a3 b0 b1 b2 b3 HO
  have hq : ((k : Int) == 1) = decide (k = 1) := by
    by_cases h : k = 1
    · subst h; rfl
    · rw [decide_eq_false h, beq_eq_false_iff_ne]; omega
  have hwr : IntKind.i64.wrap ((k : Int) + 1) = (k : Int) + 1 := by have h1 : k = 1 ∨ k = 2 ∨ k = 3 := (by omega); rcases h1 with rfl | rfl | rfl <;> rfl
  by_cases hk1' : k = 1
  · have hlk : lf = 2 := by omega
    rw [hlk, show ((2 : Nat) : Int) = 2 from rfl] at HI
    clear hq hlf hlk hwr
    subst hk1'
    rw [show ((1 : Nat) : Int) + 1 = 2 from rfl] at HJ
    rw [show ((1 : Nat) : Int) = 1 from rfl]
    have hwr : IntKind.i64.wrap 2 = 2 := rfl
    rw [← hX]
    clear hX
    go_wp2_with fail
    go_region_held3 (fun W => W.cell? ⟨w.heap.size, 0, none⟩ = some (.int .i64 3) ∧ W.cell? ⟨w.heap.size, 2, none⟩ = some (.string s) ∧ W.cell? ⟨w.heap.size, 3, none⟩ = some (.slice (some ⟨g0, off, none⟩) 2 c) ∧ W.cell? ⟨g0, off, none⟩ = some (.int .i64 x.kind) ∧ W.cell? ⟨g0, off + 1, none⟩ = some (.int .i64 x.n) ∧ W.cell? ⟨g0, off + 2, none⟩ = some (.string x.s) ∧ W.cell? ⟨g0, off + 3, none⟩ = some (.slice D0 x.kids.length cc0) ∧ W.cell? ⟨g0, off + 4, none⟩ = some (.int .i64 y.kind) ∧ W.cell? ⟨g0, off + 5, none⟩ = some (.int .i64 y.n) ∧ W.cell? ⟨g0, off + 6, none⟩ = some (.string y.s) ∧ W.cell? ⟨g0, off + 7, none⟩ = some (.slice D1 y.kids.length cc1) ∧ Below (w.heap.size + 1) w1 W)
      (first | with_reducible exact HS.out _ BX | with_reducible exact HS.out _ (BX.drew) | exact HS.out _ (BX.alloc (Nat.le_trans hw1 BX.size) _) | exact HS.out _ (BX.drew.alloc (Nat.le_trans hw1 BX.size) _) | exact HS.out _ (BX.alloc (Nat.le_trans hw1 BX.size) _).drew)
      (first | (go_at_call 28; refine calls_named ?_; intro Y hY; have hXY : Below X.heap.size X Y := (by rw [hY]; first | exact Below.refl _ _ | exact (Below.refl _ _).drew | exact (Below.refl _ _).alloc (Nat.le_refl _) _ | exact (Below.refl _ _).drew.alloc (Nat.le_refl _) _ | exact ((Below.refl _ _).alloc (Nat.le_refl _) _).drew); (try (first | have RB := rowD_at hY HOX.out | have RB := rowD_at_drew hY HOX.out | have RB := rowD_at_drew' hY HOX.out)); (try replace RA := RA.below hXY); (try replace RB := RB.below hXY); (try replace RC := RC.below hXY); replace HOX := Lib.hid (HOX.out.below hXY); replace BX := BX.trans (hXY.mono (Nat.le_trans hw1 BX.size)); clear hY hXY; have hBY := B1.trans (BX.mono (Nat.le_add_right _ 1)); with_reducible refine (HI.out Y hBY).mono ?_; clear hBY; intro r X hwd; obtain ⟨gA, capA, rfl, RA, hYZ⟩ := wordy_row hla hwd HOX.out; (try replace RB := RB.below hYZ); (try replace RC := RC.below hYZ); replace HOX := Lib.hid (HOX.out.below hYZ); replace BX := BX.trans (hYZ.mono (Nat.le_trans hw1 BX.size)); clear hwd hYZ) | (go_at_call 28; refine calls_named ?_; intro Y hY; have hXY : Below X.heap.size X Y := (by rw [hY]; first | exact Below.refl _ _ | exact (Below.refl _ _).drew | exact (Below.refl _ _).alloc (Nat.le_refl _) _ | exact (Below.refl _ _).drew.alloc (Nat.le_refl _) _ | exact ((Below.refl _ _).alloc (Nat.le_refl _) _).drew); (try (first | have RB := rowD_at hY HOX.out | have RB := rowD_at_drew hY HOX.out | have RB := rowD_at_drew' hY HOX.out)); (try replace RA := RA.below hXY); (try replace RB := RB.below hXY); (try replace RC := RC.below hXY); replace HOX := Lib.hid (HOX.out.below hXY); replace BX := BX.trans (hXY.mono (Nat.le_trans hw1 BX.size)); clear hY hXY; have hBY := B1.trans (BX.mono (Nat.le_add_right _ 1)); with_reducible refine (HJ.out Y hBY).mono ?_; clear hBY; intro r X hwd; obtain ⟨gC, capC, rfl, RC, hYZ⟩ := wordy_row hlb hwd HOX.out; (try replace RA := RA.below hYZ); (try replace RB := RB.below hYZ); replace HOX := Lib.hid (HOX.out.below hYZ); replace BX := BX.trans (hYZ.mono (Nat.le_trans hw1 BX.size)); clear hwd hYZ) | (refine wp_named ?_; intro Y hY; have hXY : Below X.heap.size X Y := (by rw [hY]; first | exact Below.refl _ _ | exact (Below.refl _ _).drew | exact (Below.refl _ _).alloc (Nat.le_refl _) _ | exact (Below.refl _ _).drew.alloc (Nat.le_refl _) _ | exact ((Below.refl _ _).alloc (Nat.le_refl _) _).drew); (try (first | have RB := rowD_at hY HOX.out | have RB := rowD_at_drew hY HOX.out | have RB := rowD_at_drew' hY HOX.out)); (try replace RA := RA.below hXY); (try replace RB := RB.below hXY); (try replace RC := RC.below hXY); replace HOX := Lib.hid (HOX.out.below hXY); replace BX := BX.trans (hXY.mono (Nat.le_trans hw1 BX.size)); clear hY hXY; refine step_ownR rfl (.tmp 44) (.tmp 50) rfl _ _ _ _ _ HOX.out (by simp [Act.eval, Act.put]) _ _ capA _ RA (by simp [Act.eval, Act.put]) rfl (by first | omega | (simp; omega)) (by first | omega | (simp; omega)) (Nat.le_trans hw1 BX.size) ?_; intro gr' cap' X hO hG hor; replace BX := BX.grown hG (Nat.le_trans hw1 BX.size) (fun j e => by obtain rfl := Option.some.inj e; exact HOX.out.1); (try replace RB := RB.grown hG hor); (try replace RC := RC.grown hG hor); clear RA; replace HOX := Lib.hid hO; clear hO hG hor) | (refine wp_named ?_; intro Y hY; have hXY : Below X.heap.size X Y := (by rw [hY]; first | exact Below.refl _ _ | exact (Below.refl _ _).drew | exact (Below.refl _ _).alloc (Nat.le_refl _) _ | exact (Below.refl _ _).drew.alloc (Nat.le_refl _) _ | exact ((Below.refl _ _).alloc (Nat.le_refl _) _).drew); (try (first | have RB := rowD_at hY HOX.out | have RB := rowD_at_drew hY HOX.out | have RB := rowD_at_drew' hY HOX.out)); (try replace RA := RA.below hXY); (try replace RB := RB.below hXY); (try replace RC := RC.below hXY); replace HOX := Lib.hid (HOX.out.below hXY); replace BX := BX.trans (hXY.mono (Nat.le_trans hw1 BX.size)); clear hY hXY; refine step_ownR rfl (.tmp 51) (.tmp 54) rfl _ _ _ _ _ HOX.out (by simp [Act.eval, Act.put]) _ _ 1 _ RB (by simp [Act.eval, Act.put]) rfl (by first | omega | (simp; omega)) (by first | omega | (simp; omega)) (Nat.le_trans hw1 BX.size) ?_; intro gr' cap' X hO hG hor; replace BX := BX.grown hG (Nat.le_trans hw1 BX.size) (fun j e => by obtain rfl := Option.some.inj e; exact HOX.out.1); (try replace RA := RA.grown hG hor); (try replace RC := RC.grown hG hor); clear RB; replace HOX := Lib.hid hO; clear hO hG hor) | (refine wp_named ?_; intro Y hY; have hXY : Below X.heap.size X Y := (by rw [hY]; first | exact Below.refl _ _ | exact (Below.refl _ _).drew | exact (Below.refl _ _).alloc (Nat.le_refl _) _ | exact (Below.refl _ _).drew.alloc (Nat.le_refl _) _ | exact ((Below.refl _ _).alloc (Nat.le_refl _) _).drew); (try (first | have RB := rowD_at hY HOX.out | have RB := rowD_at_drew hY HOX.out | have RB := rowD_at_drew' hY HOX.out)); (try replace RA := RA.below hXY); (try replace RB := RB.below hXY); (try replace RC := RC.below hXY); replace HOX := Lib.hid (HOX.out.below hXY); replace BX := BX.trans (hXY.mono (Nat.le_trans hw1 BX.size)); clear hY hXY; refine step_ownR rfl (.tmp 55) (.tmp 62) rfl _ _ _ _ _ HOX.out (by simp [Act.eval, Act.put]) _ _ capC _ RC (by simp [Act.eval, Act.put]) rfl (by first | omega | (simp; omega)) (by first | omega | (simp; omega)) (Nat.le_trans hw1 BX.size) ?_; intro gr' cap' X hO hG hor; replace BX := BX.grown hG (Nat.le_trans hw1 BX.size) (fun j e => by obtain rfl := Option.some.inj e; exact HOX.out.1); (try replace RA := RA.grown hG hor); (try replace RB := RB.grown hG hor); clear RC; replace HOX := Lib.hid hO; clear hO hG hor))
    all_goals
      have hBX := B1.trans (BX.mono (Nat.le_add_right _ 1))
      have hZX := Nat.le_trans hw1 BX.size
      have hlen : 0 + ws.length + [s].length + vs.length = ws.length + 1 + vs.length := by simp
      clear HS HI HJ HL y0 y1 y2 y3 y4 y5 y6 y7 d0 d2 d3 hwr
      have HX := Lib.hid (show OwnR X (w.heap.size + 1) gr' (ws.length + 1 + vs.length) cap' (ws ++ [s] ++ vs) by have h := HOX.out; rw [hlen, List.nil_append] at h; exact h)
      clear HOX
      by_cases hkt : 1 < tight
      · have q : decide ((1 : Int) < (tight : Int)) = true := decide_eq_true (by omega)
        have HR := Lib.hid (show R = [sLp] ++ (ws ++ [s] ++ vs) ++ [sRp] by rw [HP.out, decide_eq_true hkt]; rfl)
        have hrow := own_lit X (.string sLp) 9
        obtain ⟨i0, hi, hz0, hz1', hz2⟩ := info_parts infoStr
        go_wp2_with (first | (at_builtin; refine wpList_append_own _ rfl _ _ 33 rfl X.heap.size 9 i0 (.string ByteArray.empty) 1 16 Tryd.underlying33 hi hz0 hz1' hz2 rfl (by decide) _ _ _ rfl hrow ⟨gr', 0, none⟩ (ws.length + 1 + vs.length) cap' ((ws ++ [s] ++ vs).map strV) rfl (by simp; omega) (fun j u hj => (World.cell?_alloc_lt _ _ _ (by rw [addr_block]; exact HX.out.2.1)).trans (HX.out.2.2.cells (g := gr') rfl j u hj)) (strs_one _) (by unfold maxLen; omega) (by omega) (by simp) ?_; intro v' w3 hown' hgrow _; obtain ⟨g3, cap3, rfl, hg3⟩ := own_some hown' (by omega); have hb3 : Below X.heap.size X w3 := below_lit hgrow) | (at_builtin; refine wpList_append_own _ rfl _ _ 33 rfl X.heap.size 9 i0 (.string ByteArray.empty) 1 16 Tryd.underlying33 hi hz0 hz1' hz2 rfl (by decide) _ _ _ rfl (hown'.alloc _) ⟨w3.heap.size, 0, none⟩ 1 1 [.string sRp] rfl rfl (cell_one_new _ _ _) (by simp [Value.oneCell']) (by unfold maxLen; omega) (by omega) (by have := hb3.size; simp; omega) ?_; intro v5 w5 hown5 hgrow5 _; obtain ⟨g5, cap5, rfl, hg5⟩ := own_some hown5 (by omega)))
        have hb5 := below_append hb3 hb3.size hown' hgrow5
        refine bodyPost_ret (v := .slice (some ⟨g5, 0, none⟩) (1 + (ws.length + 1 + vs.length) + 1) cap5) (by simp [results, Tryd.results28, go_sem]) rfl ?_
        rw [HR.out]
        refine ⟨_, rfl, ?_, hBX.trans (hb5.mono (by omega))⟩
        have h9 := ownsRow_lower hown5 (show w.heap.size ≤ X.heap.size by omega)
        have e9 : ([sLp] ++ (ws ++ [s] ++ vs) ++ [sRp]).length = 1 + (ws.length + 1 + vs.length) + 1 := by simp; omega
        rw [e9]
        simpa [strV] using h9
      · have q : decide ((1 : Int) < (tight : Int)) = false := decide_eq_false (by omega)
        have HR := Lib.hid (show R = ws ++ [s] ++ vs by rw [HP.out, decide_eq_false hkt]; rfl)
        go_wp2_with fail
        refine bodyPost_ret (v := .slice (some ⟨gr', 0, none⟩) (ws.length + 1 + vs.length) cap') (by simp [results, Tryd.results28, go_sem]) rfl ?_
        rw [HR.out]
        refine ⟨_, rfl, ?_, hBX⟩
        have h9 := ownsRow_lower HX.out.2.2 (Nat.le_add_right w.heap.size 1)
        have e9 : (ws ++ [s] ++ vs).length = ws.length + 1 + vs.length := by simp; omega
        rw [e9]
        simpa using h9
  · have hq' : ((k : Int) == 1) = false := by rw [hq, decide_eq_false hk1']
    have hlk : lf = k := by omega
    rw [hlk] at HI
    clear hq hlf hlk
    rw [← hX]
    clear hX
    go_wp2_with fail
    go_region_held3 (fun W => W.cell? ⟨w.heap.size, 0, none⟩ = some (.int .i64 3) ∧ W.cell? ⟨w.heap.size, 2, none⟩ = some (.string s) ∧ W.cell? ⟨w.heap.size, 3, none⟩ = some (.slice (some ⟨g0, off, none⟩) 2 c) ∧ W.cell? ⟨g0, off, none⟩ = some (.int .i64 x.kind) ∧ W.cell? ⟨g0, off + 1, none⟩ = some (.int .i64 x.n) ∧ W.cell? ⟨g0, off + 2, none⟩ = some (.string x.s) ∧ W.cell? ⟨g0, off + 3, none⟩ = some (.slice D0 x.kids.length cc0) ∧ W.cell? ⟨g0, off + 4, none⟩ = some (.int .i64 y.kind) ∧ W.cell? ⟨g0, off + 5, none⟩ = some (.int .i64 y.n) ∧ W.cell? ⟨g0, off + 6, none⟩ = some (.string y.s) ∧ W.cell? ⟨g0, off + 7, none⟩ = some (.slice D1 y.kids.length cc1) ∧ Below (w.heap.size + 1) w1 W)
      (first | with_reducible exact HS.out _ BX | with_reducible exact HS.out _ (BX.drew) | exact HS.out _ (BX.alloc (Nat.le_trans hw1 BX.size) _) | exact HS.out _ (BX.drew.alloc (Nat.le_trans hw1 BX.size) _) | exact HS.out _ (BX.alloc (Nat.le_trans hw1 BX.size) _).drew)
      (first | (go_at_call 28; refine calls_named ?_; intro Y hY; have hXY : Below X.heap.size X Y := (by rw [hY]; first | exact Below.refl _ _ | exact (Below.refl _ _).drew | exact (Below.refl _ _).alloc (Nat.le_refl _) _ | exact (Below.refl _ _).drew.alloc (Nat.le_refl _) _ | exact ((Below.refl _ _).alloc (Nat.le_refl _) _).drew); (try (first | have RB := rowD_at hY HOX.out | have RB := rowD_at_drew hY HOX.out | have RB := rowD_at_drew' hY HOX.out)); (try replace RA := RA.below hXY); (try replace RB := RB.below hXY); (try replace RC := RC.below hXY); replace HOX := Lib.hid (HOX.out.below hXY); replace BX := BX.trans (hXY.mono (Nat.le_trans hw1 BX.size)); clear hY hXY; have hBY := B1.trans (BX.mono (Nat.le_add_right _ 1)); with_reducible refine (HI.out Y hBY).mono ?_; clear hBY; intro r X hwd; obtain ⟨gA, capA, rfl, RA, hYZ⟩ := wordy_row hla hwd HOX.out; (try replace RB := RB.below hYZ); (try replace RC := RC.below hYZ); replace HOX := Lib.hid (HOX.out.below hYZ); replace BX := BX.trans (hYZ.mono (Nat.le_trans hw1 BX.size)); clear hwd hYZ) | (go_at_call 28; refine calls_named ?_; intro Y hY; have hXY : Below X.heap.size X Y := (by rw [hY]; first | exact Below.refl _ _ | exact (Below.refl _ _).drew | exact (Below.refl _ _).alloc (Nat.le_refl _) _ | exact (Below.refl _ _).drew.alloc (Nat.le_refl _) _ | exact ((Below.refl _ _).alloc (Nat.le_refl _) _).drew); (try (first | have RB := rowD_at hY HOX.out | have RB := rowD_at_drew hY HOX.out | have RB := rowD_at_drew' hY HOX.out)); (try replace RA := RA.below hXY); (try replace RB := RB.below hXY); (try replace RC := RC.below hXY); replace HOX := Lib.hid (HOX.out.below hXY); replace BX := BX.trans (hXY.mono (Nat.le_trans hw1 BX.size)); clear hY hXY; have hBY := B1.trans (BX.mono (Nat.le_add_right _ 1)); with_reducible refine (HJ.out Y hBY).mono ?_; clear hBY; intro r X hwd; obtain ⟨gC, capC, rfl, RC, hYZ⟩ := wordy_row hlb hwd HOX.out; (try replace RA := RA.below hYZ); (try replace RB := RB.below hYZ); replace HOX := Lib.hid (HOX.out.below hYZ); replace BX := BX.trans (hYZ.mono (Nat.le_trans hw1 BX.size)); clear hwd hYZ) | (refine wp_named ?_; intro Y hY; have hXY : Below X.heap.size X Y := (by rw [hY]; first | exact Below.refl _ _ | exact (Below.refl _ _).drew | exact (Below.refl _ _).alloc (Nat.le_refl _) _ | exact (Below.refl _ _).drew.alloc (Nat.le_refl _) _ | exact ((Below.refl _ _).alloc (Nat.le_refl _) _).drew); (try (first | have RB := rowD_at hY HOX.out | have RB := rowD_at_drew hY HOX.out | have RB := rowD_at_drew' hY HOX.out)); (try replace RA := RA.below hXY); (try replace RB := RB.below hXY); (try replace RC := RC.below hXY); replace HOX := Lib.hid (HOX.out.below hXY); replace BX := BX.trans (hXY.mono (Nat.le_trans hw1 BX.size)); clear hY hXY; refine step_ownR rfl (.tmp 44) (.tmp 50) rfl _ _ _ _ _ HOX.out (by simp [Act.eval, Act.put]) _ _ capA _ RA (by simp [Act.eval, Act.put]) rfl (by first | omega | (simp; omega)) (by first | omega | (simp; omega)) (Nat.le_trans hw1 BX.size) ?_; intro gr' cap' X hO hG hor; replace BX := BX.grown hG (Nat.le_trans hw1 BX.size) (fun j e => by obtain rfl := Option.some.inj e; exact HOX.out.1); (try replace RB := RB.grown hG hor); (try replace RC := RC.grown hG hor); clear RA; replace HOX := Lib.hid hO; clear hO hG hor) | (refine wp_named ?_; intro Y hY; have hXY : Below X.heap.size X Y := (by rw [hY]; first | exact Below.refl _ _ | exact (Below.refl _ _).drew | exact (Below.refl _ _).alloc (Nat.le_refl _) _ | exact (Below.refl _ _).drew.alloc (Nat.le_refl _) _ | exact ((Below.refl _ _).alloc (Nat.le_refl _) _).drew); (try (first | have RB := rowD_at hY HOX.out | have RB := rowD_at_drew hY HOX.out | have RB := rowD_at_drew' hY HOX.out)); (try replace RA := RA.below hXY); (try replace RB := RB.below hXY); (try replace RC := RC.below hXY); replace HOX := Lib.hid (HOX.out.below hXY); replace BX := BX.trans (hXY.mono (Nat.le_trans hw1 BX.size)); clear hY hXY; refine step_ownR rfl (.tmp 51) (.tmp 54) rfl _ _ _ _ _ HOX.out (by simp [Act.eval, Act.put]) _ _ 1 _ RB (by simp [Act.eval, Act.put]) rfl (by first | omega | (simp; omega)) (by first | omega | (simp; omega)) (Nat.le_trans hw1 BX.size) ?_; intro gr' cap' X hO hG hor; replace BX := BX.grown hG (Nat.le_trans hw1 BX.size) (fun j e => by obtain rfl := Option.some.inj e; exact HOX.out.1); (try replace RA := RA.grown hG hor); (try replace RC := RC.grown hG hor); clear RB; replace HOX := Lib.hid hO; clear hO hG hor) | (refine wp_named ?_; intro Y hY; have hXY : Below X.heap.size X Y := (by rw [hY]; first | exact Below.refl _ _ | exact (Below.refl _ _).drew | exact (Below.refl _ _).alloc (Nat.le_refl _) _ | exact (Below.refl _ _).drew.alloc (Nat.le_refl _) _ | exact ((Below.refl _ _).alloc (Nat.le_refl _) _).drew); (try (first | have RB := rowD_at hY HOX.out | have RB := rowD_at_drew hY HOX.out | have RB := rowD_at_drew' hY HOX.out)); (try replace RA := RA.below hXY); (try replace RB := RB.below hXY); (try replace RC := RC.below hXY); replace HOX := Lib.hid (HOX.out.below hXY); replace BX := BX.trans (hXY.mono (Nat.le_trans hw1 BX.size)); clear hY hXY; refine step_ownR rfl (.tmp 55) (.tmp 62) rfl _ _ _ _ _ HOX.out (by simp [Act.eval, Act.put]) _ _ capC _ RC (by simp [Act.eval, Act.put]) rfl (by first | omega | (simp; omega)) (by first | omega | (simp; omega)) (Nat.le_trans hw1 BX.size) ?_; intro gr' cap' X hO hG hor; replace BX := BX.grown hG (Nat.le_trans hw1 BX.size) (fun j e => by obtain rfl := Option.some.inj e; exact HOX.out.1); (try replace RA := RA.grown hG hor); (try replace RB := RB.grown hG hor); clear RC; replace HOX := Lib.hid hO; clear hO hG hor))
    all_goals
      have hBX := B1.trans (BX.mono (Nat.le_add_right _ 1))
      have hZX := Nat.le_trans hw1 BX.size
      have hlen : 0 + ws.length + [s].length + vs.length = ws.length + 1 + vs.length := by simp
      clear HS HI HJ HL y0 y1 y2 y3 y4 y5 y6 y7 d0 d2 d3 hwr
      have HX := Lib.hid (show OwnR X (w.heap.size + 1) gr' (ws.length + 1 + vs.length) cap' (ws ++ [s] ++ vs) by have h := HOX.out; rw [hlen, List.nil_append] at h; exact h)
      clear HOX
      by_cases hkt : k < tight
      · have q : decide ((k : Int) < (tight : Int)) = true := decide_eq_true (by omega)
        have HR := Lib.hid (show R = [sLp] ++ (ws ++ [s] ++ vs) ++ [sRp] by rw [HP.out, decide_eq_true hkt]; rfl)
        have hrow := own_lit X (.string sLp) 9
        obtain ⟨i0, hi, hz0, hz1', hz2⟩ := info_parts infoStr
        go_wp2_with (first | (at_builtin; refine wpList_append_own _ rfl _ _ 33 rfl X.heap.size 9 i0 (.string ByteArray.empty) 1 16 Tryd.underlying33 hi hz0 hz1' hz2 rfl (by decide) _ _ _ rfl hrow ⟨gr', 0, none⟩ (ws.length + 1 + vs.length) cap' ((ws ++ [s] ++ vs).map strV) rfl (by simp; omega) (fun j u hj => (World.cell?_alloc_lt _ _ _ (by rw [addr_block]; exact HX.out.2.1)).trans (HX.out.2.2.cells (g := gr') rfl j u hj)) (strs_one _) (by unfold maxLen; omega) (by omega) (by simp) ?_; intro v' w3 hown' hgrow _; obtain ⟨g3, cap3, rfl, hg3⟩ := own_some hown' (by omega); have hb3 : Below X.heap.size X w3 := below_lit hgrow) | (at_builtin; refine wpList_append_own _ rfl _ _ 33 rfl X.heap.size 9 i0 (.string ByteArray.empty) 1 16 Tryd.underlying33 hi hz0 hz1' hz2 rfl (by decide) _ _ _ rfl (hown'.alloc _) ⟨w3.heap.size, 0, none⟩ 1 1 [.string sRp] rfl rfl (cell_one_new _ _ _) (by simp [Value.oneCell']) (by unfold maxLen; omega) (by omega) (by have := hb3.size; simp; omega) ?_; intro v5 w5 hown5 hgrow5 _; obtain ⟨g5, cap5, rfl, hg5⟩ := own_some hown5 (by omega)))
        have hb5 := below_append hb3 hb3.size hown' hgrow5
        refine bodyPost_ret (v := .slice (some ⟨g5, 0, none⟩) (1 + (ws.length + 1 + vs.length) + 1) cap5) (by simp [results, Tryd.results28, go_sem]) rfl ?_
        rw [HR.out]
        refine ⟨_, rfl, ?_, hBX.trans (hb5.mono (by omega))⟩
        have h9 := ownsRow_lower hown5 (show w.heap.size ≤ X.heap.size by omega)
        have e9 : ([sLp] ++ (ws ++ [s] ++ vs) ++ [sRp]).length = 1 + (ws.length + 1 + vs.length) + 1 := by simp; omega
        rw [e9]
        simpa [strV] using h9
      · have q : decide ((k : Int) < (tight : Int)) = false := decide_eq_false (by omega)
        have HR := Lib.hid (show R = ws ++ [s] ++ vs by rw [HP.out, decide_eq_false hkt]; rfl)
        go_wp2_with fail
        refine bodyPost_ret (v := .slice (some ⟨gr', 0, none⟩) (ws.length + 1 + vs.length) cap') (by simp [results, Tryd.results28, go_sem]) rfl ?_
        rw [HR.out]
        refine ⟨_, rfl, ?_, hBX⟩
        have h9 := ownsRow_lower HX.out.2.2 (Nat.le_add_right w.heap.size 1)
        have e9 : (ws ++ [s] ++ vs).length = ws.length + 1 + vs.length := by simp; omega
        rw [e9]
        simpa using h9

/-- The model's words of every part that is fine. -/
theorem l4Words_any (p : Pt) : p.fine = true → p.nodes ≤ 900 → SWords p := by
  induction p with
  | num n => intro hf _; exact l4Words_num n hf
  | name s => intro hf _; exact l4Words_name s hf
  | two s a b ia ib =>
    intro hf hn
    have hf' := hf
    simp only [Pt.fine, Bool.and_eq_true] at hf'
    simp only [Pt.nodes] at hn
    exact l4Words_two s a b hf (by omega) (by omega) (ia hf'.2.1 (by omega)) (ib hf'.2.2 (by omega))
  | «as» s a ia =>
    intro hf hn
    have hf' := hf
    simp only [Pt.fine, Bool.and_eq_true] at hf'
    simp only [Pt.nodes] at hn
    exact l4Words_as s a hf (by omega) (ia hf'.2 (by omega))
end Go.Proofs.YtaclndbilpaboaaDoor
