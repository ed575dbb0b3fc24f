/-
  The contracts of impl.lineBegins and impl.TextLines, for all texts.
-/
import Derived.Test.YtnpcohbbjfjjaaaTextOk
import Derived.Maps.AppendAt
import Derived.Maps.OwnIn
namespace Go.Proofs.Ytnpcohbbjfjjaaa
open Go.RowKit Go.Shelf
attribute [local go_sem] Oper.semAt_some

theorem cuts_length (l : List UInt8) : ∀ b k, (cuts b k l).length ≤ l.length + 1 := by
  induction l with
  | nil => intro b k; simp [cuts]
  | cons c l ih =>
    intro b k
    simp only [cuts]
    split
    · have := ih (k + 1) (k + 1); simp; omega
    · have := ih b (k + 1); simp; omega
theorem lines_length (s : ByteArray) : (lines s).length ≤ s.size + 1 := by
  have := cuts_length (L s) 0 0; rw [L_length] at this; exact this

/-- The call hands back a slice of its own, which holds these values; what was there is as it was. -/
def Makes (w : World) (t : TypeId) (xs : List Value) (e : Ending) (w' : World) : Prop :=
  ∃ v, e = .returned v ∧ w'.ownsRow w.heap.size t 1 v xs.length xs ∧ Below w.heap.size w w'

theorem infoInt : (Try.prog.info? 3).map (fun i => (i.zero, i.size, i.bytes)) = some (some (.int .i64 0), 1, 8) := by kernel_rfl
theorem infoStr : (Try.prog.info? 9).map (fun i => (i.zero, i.size, i.bytes)) = some (some (.string ByteArray.empty), 1, 16) := by kernel_rfl

def vBegin (x : Nat × Nat) : Value := .int .i64 (x.1 : Int)
def vLine (s : ByteArray) (x : Nat × Nat) : Value := .string (s.extract x.1 x.2)

theorem text_kept {W w1 : World} {Bs B n₀ : Nat} {tS e : TypeId} {size k : Nat} {v : Value} {xs : List Value} {tmp : Obj} {s : ByteArray} (bS : Boxed W Bs tS (.string s)) (hne : tS ≠ e) (hrow : W.ownsRow n₀ e size v k xs)
    (hgrow : (W.alloc tmp).grownBy w1 v.ownBlock) (hB : Bs ≠ B) (u : Value) : Boxed (w1.setCell ⟨B, 0, none⟩ u) Bs tS (.string s) :=
  ((bS.alloc tmp).kept hgrow (bS.not_row hne hrow)).other hB u

theorem text_kept2 {W w1 : World} {Bs B : Nat} {tS : TypeId} {v : Value} {tmp : Obj} {s : ByteArray} (bS : Boxed W Bs tS (.string s)) (hne : v.ownBlock ≠ some Bs)
    (hgrow : (W.alloc tmp).grownBy w1 v.ownBlock) (hB : Bs ≠ B) (u : Value) : Boxed (w1.setCell ⟨B, 0, none⟩ u) Bs tS (.string s) :=
  ((bS.alloc tmp).kept hgrow hne.symm).other hB u
theorem row_apart {W : World} {tmp : Obj} {Bs : Nat} {v v' : Value} (hne : v.ownBlock ≠ some Bs) (hat : v'.ownBlock = v.ownBlock ∨ v'.ownBlock = some (W.alloc tmp).heap.size) (hbs : Bs < W.heap.size) : v'.ownBlock ≠ some Bs := by
  rcases hat with h | h
  · rw [h]; exact hne
  · rw [h]; simp; omega

set_option maxRecDepth 100000 in
set_option maxHeartbeats 2000000 in
theorem lineBegins_any (s : ByteArray) (w : World) (hs : s.size ≤ 2 ^ 30) :
    Calls Try.prog 46 #[.string s] w (Makes w 3 ((lines s).map vBegin)) := by
  refine (callsIn_wide (n := 4)).1 ?_
  have hro : Fence.wide.round = none := rfl
  obtain ⟨i0, hi, hz0, hz1, hz2⟩ := info_parts infoInt
  have hll := lines_length s
  refine callsIn_of_wp_marks Try.func46 rfl trivial ?_ hro
  simp only [Try.ntmps46, List.size_toArray, List.length_cons, List.length_nil, Nat.reduceAdd, Nat.reduceSub, Array.replicate_succ, Array.replicate_zero, List.push_toArray, List.append_toArray, List.nil_append, List.cons_append]
  gi_wp2_with (refine ⟨trivial, ?_⟩; gi_at_call 49; refine (eachLine_in Fence.wide _ trivial hro _ _).mono ?_; rintro e w' ⟨rfl, rfl⟩)
  have bO := Boxed.new w 57 (.slice none 0 0)
  have bN := Boxed.new (w.alloc (.cells #[.slice none 0 0] 57)) 9 (.string s)
  rw [World.size_alloc] at bN
  have hB0 : Below w.heap.size w ((w.alloc (.cells #[.slice none 0 0] 57)).alloc (.cells #[.string s] 9)) := ((Below.refl _ w).alloc (Nat.le_refl _) _).alloc (by simp) _
  refine wpIn_rangeFunc_ownG hro (by omega) (gf := 59) (lb := #[.pointer (some ⟨w.heap.size + 1, 0, none⟩)]) rfl trivial (enters_of Try.func59 (by kernel_rfl) rfl)
    (eachLine_stops Fence.wide (4 - 1) trivial hro (by omega) (w.heap.size + 1) s (by omega) _ (by simp) bN.cell) KeepsText.t KeepsText.b (Below.refl _ _) (fun _ => rfl)
    (fun pre W => ((∃ v, Boxed W w.heap.size 57 v ∧ W.ownsRow w.heap.size 3 1 v pre.length (pre.map vBegin) ∧ True) ∧ Boxed W (w.heap.size + 1) 9 (.string s)) ∧ Below w.heap.size w W)
    (fun _ _ _ => False)
    (OwnFrom.and (OwnFrom.and (Own.from (holdsRow_own w.heap.size w.heap.size 57 3 1 (fun pre : List (Nat × Nat) => pre.length) (fun pre => pre.map vBegin) (fun _ _ => True)) _) (Own.from (boxed_own (w.heap.size + 1) 9 (fun _ => .string s)) _)) (ownFrom_below (Nat.le_refl _) (by simp; omega)))
    (fun _ _ _ _ _ hs _ _ => hs)
    ⟨⟨⟨_, bO.alloc _, World.ownsRow_nil _ _ _ _, trivial⟩, bN⟩, hB0⟩
    (fun x => { tmps := #[.string s, undef, .slice none 0 0, .pointer (some ⟨w.heap.size, 0, none⟩), .int .i64 (x.1 : Int), .string s, .func (.func 59) #[] #[.pointer (some ⟨w.heap.size + 1, 0, none⟩)], .int .i64 (x.1 : Int), .string (s.extract x.1 x.2), undef, undef, undef, undef, undef], defers := [] }) ?assign ?body ?done ?stop
  case assign =>
    intro l x W K hK
    gi_wp2
    exact hK
  case body =>
    rintro l pre x W ⟨⟨⟨v, hv, hrow, _⟩, bS⟩, hB⟩ hlt
    have hc := hv.cell
    gi_wp2_with (gi_at_builtin; refine wpListIn_append_own _ rfl _ _ 57 rfl w.heap.size 3 i0 (.int .i64 0) 1 8 Try.underlying57 hi hz0 hz1 hz2 rfl (by decide) _ _ _ rfl (hrow.alloc _) ⟨W.heap.size, 0, none⟩ 1 1 [.int .i64 (x.1 : Int)] rfl rfl (cell_one_new _ _ _) (by simp [Value.oneCell']) (by unfold maxLen; omega) (by omega) (by have := hB.size; simp; omega) ?_; intro v' w1 hown' hgrow _; obtain ⟨g', cap', rfl⟩ := ownsRow_succ hown'; obtain ⟨hv1, hv2, hr2, hk2, hb2⟩ := hv.appended (by decide) hrow hB.size (Nat.le_refl _) hown' hgrow; have hc1 := hv1.cell; have hf1 := hv1.frozen)
    have bS1 := text_kept bS (by decide) hrow hgrow (B := w.heap.size) (by omega) (.slice (some ⟨g', 0, none⟩) (pre.length + 1) cap')
    exact ⟨hk2.from _, fun _ => bS1.cell, ⟨⟨_, hv2, by rw [List.map_append, List.length_append]; exact hr2, trivial⟩, bS1⟩, hB.trans hb2⟩
  case done =>
    rintro D ys W hD rfl ⟨⟨⟨v, hv, hrow, _⟩, _⟩, hB⟩ hK
    have hc := hv.cell
    gi_wp2
    refine ⟨by simp, .inl ⟨_, _, rfl, run_takeDeferred hK, ?_⟩⟩
    exact ⟨_, results_tmp rfl _ _ _, v, rfl, by rw [List.length_map]; exact ownsRow_putObj hrow _ hK rfl, hB.trans (belowK_b (w := w) (Nat.le_refl _) W D _ _ (by simp at hD; omega) hK rfl rfl)⟩
  case stop =>
    rintro D c pre W _ _ h _
    exact h.elim

/-- What TextLines tells. -/
def linesV (s : ByteArray) : List Value := if okB s then (lines s).map (vLine s) else []

set_option maxRecDepth 100000 in
set_option maxHeartbeats 2000000 in
theorem textLines_any (s : ByteArray) (w : World) (hs : s.size ≤ 2 ^ 62) :
    Calls Try.prog 22 #[.string s] w (Makes w 9 (linesV s)) := by
  refine (callsIn_wide (n := 4)).1 ?_
  have hro : Fence.wide.round = none := rfl
  have HT := Lib.hid (textOk_any s w hs)
  cases hok : okB s
  · have HL := Lib.hid (show linesV s = [] by unfold linesV; rw [hok]; rfl)
    rw [hok] at HT
    clear hok
    refine callsIn_of_wp_marks Try.func22 rfl trivial ?_ hro
    simp only [Try.ntmps22, List.size_toArray, List.length_cons, List.length_nil, Nat.reduceAdd, Nat.reduceSub, Array.replicate_succ, Array.replicate_zero, List.push_toArray, List.append_toArray, List.nil_append, List.cons_append]
    gi_wp2_with (refine ⟨trivial, ?_⟩; gi_at_call 26; refine (callsIn_wide.2 HT.out).mono ?_; rintro e w1 ⟨rfl, hb⟩)
    exact ⟨_, results_tmp rfl _ _ _, _, rfl, by rw [HL.out]; exact World.ownsRow_nil _ _ _ _, hb⟩
  · have HL := Lib.hid (show linesV s = (lines s).map (vLine s) by unfold linesV; rw [hok]; rfl)
    have hsz : s.size ≤ 4000 := by unfold okB at hok; simp at hok; exact hok.1
    rw [hok] at HT
    clear hok
    obtain ⟨i0, hi, hz0, hz1, hz2⟩ := info_parts infoStr
    have hll := lines_length s
    refine callsIn_of_wp_marks Try.func22 rfl trivial ?_ hro
    simp only [Try.ntmps22, List.size_toArray, List.length_cons, List.length_nil, Nat.reduceAdd, Nat.reduceSub, Array.replicate_succ, Array.replicate_zero, List.push_toArray, List.append_toArray, List.nil_append, List.cons_append]
    gi_wp2_with (first | (refine ⟨trivial, ?_⟩; gi_at_call 26; refine (callsIn_wide.2 HT.out).mono ?_; rintro e w1 ⟨rfl, hb⟩) | (refine ⟨trivial, ?_⟩; gi_at_call 49; refine (eachLine_in Fence.wide _ trivial hro _ _).mono ?_; rintro e w' ⟨rfl, rfl⟩))
    have bO := Boxed.new w1 35 (.slice none 0 0)
    have bN := Boxed.new (w1.alloc (.cells #[.slice none 0 0] 35)) 9 (.string s)
    rw [World.size_alloc] at bN
    have hsw := hb.size
    have hB0 : Below w.heap.size w ((w1.alloc (.cells #[.slice none 0 0] 35)).alloc (.cells #[.string s] 9)) := (hb.alloc hsw _).alloc (by simp; omega) _
    refine wpIn_rangeFunc_ownG hro (by omega) (gf := 59) (lb := #[.pointer (some ⟨w1.heap.size + 1, 0, none⟩)]) rfl trivial (enters_of Try.func59 (by kernel_rfl) rfl)
      (eachLine_stops Fence.wide (4 - 1) trivial hro (by omega) (w1.heap.size + 1) s (by omega) _ (by simp) bN.cell) KeepsText.t KeepsText.b (Below.refl _ _) (fun _ => rfl)
      (fun pre W => ((∃ v, Boxed W w1.heap.size 35 v ∧ W.ownsRow w.heap.size 9 1 v pre.length (pre.map (vLine s)) ∧ v.ownBlock ≠ some (w1.heap.size + 1)) ∧ Boxed W (w1.heap.size + 1) 9 (.string s)) ∧ Below w.heap.size w W)
      (fun _ _ _ => False)
      (OwnFrom.and (OwnFrom.and (Own.from (holdsRow_own w.heap.size w1.heap.size 35 9 1 (fun pre : List (Nat × Nat) => pre.length) (fun pre => pre.map (vLine s)) (fun _ v => v.ownBlock ≠ some (w1.heap.size + 1))) _) (Own.from (boxed_own (w1.heap.size + 1) 9 (fun _ => .string s)) _)) (ownFrom_below (Nat.le_refl _) (by simp; omega)))
      (fun _ _ _ _ _ hs _ _ => hs)
      ⟨⟨⟨_, bO.alloc _, World.ownsRow_nil _ _ _ _, by simp [Value.ownBlock]⟩, bN⟩, hB0⟩
      (fun x => { tmps := #[.string s, undef, .slice none 0 0, .pointer (some ⟨w1.heap.size, 0, none⟩), undef, .string (s.extract x.1 x.2), .string s, .bool true, .bool false, .string s, .func (.func 59) #[] #[.pointer (some ⟨w1.heap.size + 1, 0, none⟩)], .int .i64 (x.1 : Int), .string (s.extract x.1 x.2), undef, undef, undef, undef, undef], defers := [] }) ?assign ?body ?done ?stop
    case assign =>
      intro l x W K hK
      gi_wp2
      exact hK
    case body =>
      rintro l pre x W ⟨⟨⟨v, hv, hrow, hne⟩, bS⟩, hB⟩ hlt
      have hc := hv.cell
      have hbs := bS.lt
      gi_wp2_with (gi_at_builtin; refine wpListIn_append_own_at _ rfl _ _ 35 rfl w.heap.size 9 i0 (.string ByteArray.empty) 1 16 Try.underlying35 hi hz0 hz1 hz2 rfl (by decide) _ _ _ rfl (hrow.alloc _) ⟨W.heap.size, 0, none⟩ 1 1 [.string (s.extract x.1 x.2)] rfl rfl (cell_one_new _ _ _) (by simp [Value.oneCell']) (by unfold maxLen; omega) (by omega) (by have := hB.size; simp; omega) ?_; intro v' w2 hown' hgrow _ hat; obtain ⟨g', cap', rfl⟩ := ownsRow_succ hown'; obtain ⟨hv1, hv2, hr2, hk2, hb2⟩ := hv.appended (by decide) hrow hB.size hsw hown' hgrow; have hc1 := hv1.cell; have hf1 := hv1.frozen)
      have bS1 := text_kept2 bS hne hgrow (B := w1.heap.size) (by omega) (.slice (some ⟨g', 0, none⟩) (pre.length + 1) cap')
      have hne1 := row_apart hne hat hbs
      exact ⟨hk2.from _, fun _ => bS1.cell, ⟨⟨_, hv2, by rw [List.map_append, List.length_append]; exact hr2, hne1⟩, bS1⟩, hB.trans hb2⟩
    case done =>
      rintro D ys W hD rfl ⟨⟨⟨v, hv, hrow, _⟩, _⟩, hB⟩ hK
      have hc := hv.cell
      gi_wp2
      refine ⟨by simp, .inl ⟨_, _, rfl, run_takeDeferred hK, ?_⟩⟩
      exact ⟨_, results_tmp rfl _ _ _, v, rfl, by rw [HL.out, List.length_map]; exact ownsRow_putObj hrow _ hK rfl, hB.trans (belowK_b (w := w) (Nat.le_refl _) W D _ _ (by simp at hD; omega) hK rfl rfl)⟩
    case stop =>
      rintro D c pre W _ _ h _
      exact h.elim

end Go.Proofs.Ytnpcohbbjfjjaaa
