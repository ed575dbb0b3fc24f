/-
  The contract of impl.TextOk, for all texts: it answers whether the text is ok.
-/
import Derived.Test.YtnpcohbbjfjjaaaEachLine
namespace Go.Proofs.Ytnpcohbbjfjjaaa
open Go.RowKit Go.Shelf
attribute [local go_sem] Oper.semAt_some

def allOk (s : ByteArray) (pre : List (Nat × Nat)) : Bool := pre.all (fun x => lineOk (L (s.extract x.1 x.2)))
theorem allOk_snoc (s : ByteArray) (pre : List (Nat × Nat)) (x : Nat × Nat) : allOk s (pre ++ [x]) = (allOk s pre && lineOk (L (s.extract x.1 x.2))) := by simp [allOk]
theorem allOk_lines (s : ByteArray) : allOk s (lines s) = okFrom 0 (L s) := lines_ok s
theorem allOk_prefix {s : ByteArray} {pre xs : List (Nat × Nat)} (h : pre <+: xs) (hp : allOk s pre = false) : allOk s xs = false := by
  obtain ⟨t, rfl⟩ := h
  simp only [allOk, List.all_append] at hp ⊢
  rw [hp]; rfl
theorem lineOk_wide {t : ByteArray} (h : 120 < t.size) : lineOk (L t) = false := by
  have : ¬ (L t).length ≤ 120 := by rw [L_length]; omega
  simp [lineOk, this]
theorem lineOk_narrow {t : ByteArray} (h : t.size ≤ 120) : lineOk (L t) = plainL (L t) := by
  have : (L t).length ≤ 120 := by rw [L_length]; omega
  simp [lineOk, this]

set_option maxRecDepth 100000 in
set_option maxHeartbeats 2000000 in
theorem textOk_any (s : ByteArray) (w : World) (hs : s.size ≤ 2 ^ 62) :
    Calls Try.prog 26 #[.string s] w fun e w' => e = .returned (.bool (okB s)) ∧ Below w.heap.size w w' := by
  refine (callsIn_wide (n := 4)).1 ?_
  have hro : Fence.wide.round = none := rfl
  by_cases hlong : 4000 < s.size
  · have HF := Lib.hid (show okB s = false by unfold okB; simp; omega)
    have q1 : decide ((4000 : Int) < (s.size : Int)) = true := by simp; omega
    refine callsIn_of_wp_marks Try.func26 rfl trivial ?_ hro
    simp only [Try.ntmps26, List.size_toArray, List.length_cons, List.length_nil, Nat.reduceAdd, Nat.reduceSub, Array.replicate_succ, Array.replicate_zero, List.push_toArray, List.append_toArray, List.nil_append, List.cons_append]
    gi_wp2
    refine ⟨.bool false, ?_, ret_bool HF.out.symm, (Below.refl _ w).alloc (Nat.le_refl _) _⟩
    simp [results, Try.results26, go_sem]
  · have q1 : decide ((4000 : Int) < (s.size : Int)) = false := by simp; omega
    have hsz : s.size ≤ 4000 := by omega
    refine callsIn_of_wp_marks Try.func26 rfl trivial ?_ hro
    simp only [Try.ntmps26, List.size_toArray, List.length_cons, List.length_nil, Nat.reduceAdd, Nat.reduceSub, Array.replicate_succ, Array.replicate_zero, List.push_toArray, List.append_toArray, List.nil_append, List.cons_append]
    gi_wp2_with (refine ⟨trivial, ?_⟩; gi_at_call 49; refine (eachLine_in Fence.wide _ trivial hro _ _).mono ?_; rintro e w' ⟨rfl, rfl⟩)
    have bR := Boxed.new w 4 (.bool false)
    have bN := Boxed.new (w.alloc (.cells #[.bool false] 4)) 9 (.string s)
    rw [World.size_alloc] at bN
    have hB0 : Below w.heap.size w ((w.alloc (.cells #[.bool false] 4)).alloc (.cells #[.string s] 9)) := ((Below.refl _ w).alloc (Nat.le_refl _) _).alloc (by simp) _
    refine wpIn_rangeFunc_ownG hro (by omega) (gf := 59) (lb := #[.pointer (some ⟨w.heap.size + 1, 0, none⟩)]) rfl trivial (enters_of Try.func59 (by kernel_rfl) rfl)
      (eachLine_stops Fence.wide (4 - 1) trivial hro (by omega) (w.heap.size + 1) s hs _ (by simp) bN.cell) KeepsText.t KeepsText.b (Below.refl _ _) (fun _ => rfl)
      (fun pre W => (allOk s pre = true ∧ Boxed W w.heap.size 4 (.bool false)) ∧ Below w.heap.size w W)
      (fun c pre W => (c = .ret ∧ allOk s pre = false ∧ Boxed W w.heap.size 4 (.bool false)) ∧ Below w.heap.size w W)
      (OwnFrom.and (Own.from (fun s A B row hs hg hr => ⟨hs.1, boxed_own w.heap.size 4 (fun _ => .bool false) s A B row hs.2 hg hr⟩) _) (ownFrom_below (Nat.le_refl _) (by simp; omega)))
      (fun c => OwnFrom.and (Own.from (fun s A B row hs hg hr => ⟨hs.1, hs.2.1, boxed_own w.heap.size 4 (fun _ => .bool false) s A B row hs.2.2 hg hr⟩) _) (ownFrom_below (Nat.le_refl _) (by simp; omega)))
      ⟨⟨rfl, bR.alloc _⟩, hB0⟩
      (fun x => { tmps := #[.string s, undef, .pointer (some ⟨w.heap.size, 0, none⟩), undef, .string (s.extract x.1 x.2), .string s, .int .i64 (s.size : Int), .bool false, .string s, .func (.func 59) #[] #[.pointer (some ⟨w.heap.size + 1, 0, none⟩)], .int .i64 (x.1 : Int), .string (s.extract x.1 x.2), undef, undef, undef, undef, undef, undef, undef, undef], defers := [] }) ?assign ?body ?done ?stop
    case assign =>
      intro l x W K hK
      gi_wp2
      exact hK
    case body =>
      rintro l pre x W ⟨⟨hp, hbx⟩, hB⟩ _
      have HP := Lib.hid hp; clear hp
      have hcr := hbx.cell
      have hfr := hbx.frozen
      have HA := Lib.hid (allOk_snoc s pre x)
      have hts : (s.extract x.1 x.2).size ≤ 4000 := by simp; omega
      generalize s.extract x.1 x.2 = t at *
      by_cases hw : 120 < t.size
      · have q2 : decide ((120 : Int) < (t.size : Int)) = true := by simp; omega
        have HF := Lib.hid (show allOk s (pre ++ [x]) = false by rw [HA.out, lineOk_wide hw]; simp)
        clear HA HP
        gi_wp2
        refine ⟨trivial, ?_⟩
        gi_wp2
        exact ⟨(KeepsOthers.setCell _ _ _).from _, ⟨rfl, HF.out, hbx.set _⟩, hB.setCell (p := ⟨w.heap.size, 0, none⟩) (Nat.le_refl _) _⟩
      · have q2 : decide ((120 : Int) < (t.size : Int)) = false := by simp; omega
        have HF := Lib.hid (show allOk s (pre ++ [x]) = plainL (L t) by rw [HA.out, HP.out, lineOk_narrow (by omega)]; rfl)
        have HC := Lib.hid (plainBytes_any t W (by unfold maxLen; omega))
        clear HA HP
        cases hpl : plainL (L t)
        · rw [hpl] at HC HF
          clear hpl
          gi_wp2_with (refine ⟨trivial, ?_⟩; gi_at_call 51; refine (CallsIn.inRound l (callsIn_wide.2 HC.out)).mono ?_; rintro e w' ⟨rfl, rfl⟩)
          exact ⟨(KeepsOthers.setCell _ _ _).from _, ⟨rfl, HF.out, hbx.set _⟩, hB.setCell (p := ⟨w.heap.size, 0, none⟩) (Nat.le_refl _) _⟩
        · rw [hpl] at HC HF
          clear hpl
          gi_wp2_with (refine ⟨trivial, ?_⟩; gi_at_call 51; refine (CallsIn.inRound l (callsIn_wide.2 HC.out)).mono ?_; rintro e w' ⟨rfl, rfl⟩)
          exact ⟨KeepsFrom.refl _ _, fun h => h, ⟨HF.out, hbx⟩, hB⟩
    case done =>
      rintro D ys W hD rfl ⟨⟨hok, hbx⟩, hB⟩ hK
      have HF := Lib.hid (show okB s = true by unfold okB; rw [← allOk_lines, hok]; simp; omega)
      clear hok
      have hcr := hbx.cell
      have hfr := hbx.frozen
      gi_wp2
      have hK' := (KeepsOthers.setCell W ⟨w.heap.size, 0, none⟩ (.bool true)).same D _ hK rfl
      refine ⟨by simp, .inl ⟨_, _, rfl, run_takeDeferred hK', ?_⟩⟩
      have hc5 := cell_kept (hbx.set (.bool true)).cell (grownBy_putObj' _ D (.deferred none)) (fun r e => by cases e; exact ⟨_, hK', rfl⟩)
      refine ⟨.bool true, ?_, ret_bool HF.out.symm, (hB.setCell (p := ⟨w.heap.size, 0, none⟩) (by simp) _).trans (belowK_b (w := w) (Nat.le_refl _) _ D _ _ (by simp at hD; omega) hK' rfl rfl)⟩
      simp [results, Try.results26, go_sem, hc5]
    case stop =>
      rintro D c pre W hD hpre ⟨⟨rfl, hbad, hbx⟩, hB⟩ hK
      have HF := Lib.hid (show okB s = false by unfold okB; rw [← allOk_lines, allOk_prefix hpre hbad]; simp)
      clear hbad
      gi_wp2
      refine ⟨by simp, .inl ⟨_, _, rfl, run_takeDeferred hK, ?_⟩⟩
      have hc5 := cell_kept hbx.cell (grownBy_putObj' _ D (.deferred none)) (fun r e => by cases e; exact ⟨_, hK, rfl⟩)
      refine ⟨.bool false, ?_, ret_bool HF.out.symm, hB.trans (belowK_b (w := w) (Nat.le_refl _) W D _ _ (by simp at hD; omega) hK rfl rfl)⟩
      simp [results, Try.results26, go_sem, hc5]

end Go.Proofs.Ytnpcohbbjfjjaaa
