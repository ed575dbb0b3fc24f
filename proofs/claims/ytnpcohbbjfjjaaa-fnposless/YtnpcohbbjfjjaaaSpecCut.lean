/-
  The contracts of spec.l12Cut (at newlines) and spec.TextLines, for all texts.
-/
import Derived.Test.YtnpcohbbjfjjaaaCollect
namespace Go.Proofs.Ytnpcohbbjfjjaaa
open Go.RowKit

theorem ownsRow_empty (w : World) (t : TypeId) : (w.alloc (.cells #[] t)).ownsRow w.heap.size t 1 (.slice (some ⟨w.heap.size, 0, none⟩) 0 0) 0 [] :=
  ⟨rfl, .inr ⟨w.heap.size, 0, #[], rfl, Nat.le_refl _, World.alloc_heap_new w _, Nat.le_refl _, by simp [maxLen], rfl, rfl⟩⟩

theorem below_append {n₀ : Nat} {w W w1 : World} {tmp : Obj} {v : Value} {t : TypeId} {k : Nat} {xs : List Value} (hB : Below n₀ w W) (hn : n₀ ≤ W.heap.size) (hrow : W.ownsRow n₀ t 1 v k xs) (hg : (W.alloc tmp).grownBy w1 v.ownBlock) : Below n₀ w w1 := by
  refine (hB.alloc hn tmp).grown hg (by simp; omega) fun j ej => ?_
  rcases hrow.2 with ⟨rfl, _⟩ | ⟨g, cap, cur, rfl, hb, _, _⟩
  · simp [Value.ownBlock] at ej
  · obtain rfl : g = j := by simpa [Value.ownBlock] using ej
    exact hb

/-- What l12Cut holds between two rounds: so many bytes looked at, the line at hand beginning at b, the lines pre behind it. -/
def CutAt (s : ByteArray) (pre : List (Nat × Nat)) (b k : Nat) : Prop :=
  (b ≤ k ∧ k ≤ s.size ∧ lines s = pre ++ cuts b k ((L s).drop k)) ∨ (k = s.size + 1 ∧ lines s = pre)

set_option maxRecDepth 100000 in
set_option maxHeartbeats 2000000 in
theorem cut_any (s : ByteArray) (w : World) (hs : s.size ≤ 2 ^ 30) :
    Calls Try.prog 50 #[.string s, .int .u8 10] w (Makes w 9 ((lines s).map (vLine s))) := by
  obtain ⟨i0, hi, hz0, hz1, hz2⟩ := info_parts infoStr
  have hll := lines_length s
  go_enter Try.func50, Try.ntmps50
  go_wp2
  go_loopw [5, 6, 7] (fun v d i wr => ∃ (pre : List (Nat × Nat)) (b k : Nat), k ≤ s.size + 1 ∧ d = .int .i64 b ∧ i = .int .i64 k ∧ CutAt s pre b k ∧ pre.length ≤ (lines s).length ∧ wr.ownsRow w.heap.size 9 1 v pre.length (pre.map (vLine s)) ∧ Below w.heap.size w wr)
    (fun _ _ i _ => s.size + 1 - (intOf i).toNat)
  case atStart => exact ⟨[], 0, 0, by omega, rfl, rfl, .inl ⟨Nat.le_refl _, Nat.zero_le _, rfl⟩, by simp, ownsRow_empty w _, (Below.refl _ w).alloc (Nat.le_refl _) _⟩
  case round =>
    obtain ⟨pre, b, k, hk, rfl, rfl, hcut, hpl, hown, hB⟩ := hrel
    have HC := Lib.hid hcut; clear hcut
    by_cases hend : k = s.size + 1
    · have HF := Lib.hid (show lines s = pre by rcases HC.out with ⟨_, h, _⟩ | ⟨_, h⟩; (· omega); (· exact h))
      clear HC
      have q0 : ¬ ((k : Int) ≤ (s.size : Int)) := by omega
      clear hend
      go_wp2
      go_ret
      exact ⟨_, rfl, by rw [HF.out, List.length_map]; exact hown, hB⟩
    · have hks : k ≤ s.size := by omega
      have q0 : (k : Int) ≤ (s.size : Int) := by omega
      have hbk : b ≤ k := by rcases HC.out with ⟨h, _, _⟩ | ⟨h, _⟩; (· exact h); (· omega)
      have HX := Lib.hid (show lines s = pre ++ cuts b k ((L s).drop k) by rcases HC.out with ⟨_, _, h⟩ | ⟨h, _⟩; (· exact h); (· omega))
      clear HC hend
      by_cases he : k = s.size
      · have q1 : ((k : Int) == (s.size : Int)) = true := by simp; omega
        have HF := Lib.hid (show lines s = pre ++ [(b, k)] by rw [HX.out, List.drop_eq_nil_of_le (by rw [L_length]; omega)]; rfl)
        have hpl2 : pre.length + 1 ≤ (lines s).length := by rw [HF.out]; simp
        have HE := Lib.hid he
        clear HX he
        go_wp2_with (at_builtin; refine wpList_append_own _ rfl _ _ 35 rfl w.heap.size 9 i0 (.string ByteArray.empty) 1 16 Try.underlying35 hi hz0 hz1 hz2 rfl (by decide) _ _ _ rfl (hown.alloc _) ⟨wr.heap.size, 0, none⟩ 1 1 [.string (s.extract b k)] rfl rfl (cell_one_new _ _ _) (by simp [Value.oneCell']) (by unfold maxLen; omega) (by omega) (by have := hB.size; simp; omega) ?_; intro v' w1 hown' hgrow _)
        go_roundw
        case rel => exact ⟨pre ++ [(b, k)], k + 1, k + 1, by omega, by go_num, by go_num, .inr ⟨by rw [HE.out], HF.out⟩, by simp; omega, by rw [List.map_append, List.length_append]; exact hown', below_append hB hB.size hown hgrow⟩
        case measure => simp [intOf]; omega
      · have q1 : ((k : Int) == (s.size : Int)) = false := by simp; omega
        have hlt : k < s.size := by omega
        have HS := Lib.hid (L_drop s k hlt)
        clear he
        by_cases h10 : (s[k].toNat : Int) = 10
        · have q2 : ((s[k].toNat : Int) == 10) = true := by simpa using h10
          have q3 : s[k] = 10 := UInt8.toNat_inj.1 (by have : (10 : UInt8).toNat = 10 := rfl; omega)
          have HF := Lib.hid (show lines s = pre ++ ((b, k) :: cuts (k + 1) (k + 1) ((L s).drop (k + 1))) by rw [HX.out, HS.out]; simp [cuts, q3])
          have hpl2 : pre.length + 1 ≤ (lines s).length := by rw [HF.out]; simp
          clear HX HS h10 q3
          go_wp2_with (at_builtin; refine wpList_append_own _ rfl _ _ 35 rfl w.heap.size 9 i0 (.string ByteArray.empty) 1 16 Try.underlying35 hi hz0 hz1 hz2 rfl (by decide) _ _ _ rfl (hown.alloc _) ⟨wr.heap.size, 0, none⟩ 1 1 [.string (s.extract b k)] rfl rfl (cell_one_new _ _ _) (by simp [Value.oneCell']) (by unfold maxLen; omega) (by omega) (by have := hB.size; simp; omega) ?_; intro v' w1 hown' hgrow _)
          go_roundw
          case rel => exact ⟨pre ++ [(b, k)], k + 1, k + 1, by omega, by go_num, by go_num, .inl ⟨Nat.le_refl _, by omega, by rw [HF.out]; simp⟩, by simp; omega, by rw [List.map_append, List.length_append]; exact hown', below_append hB hB.size hown hgrow⟩
          case measure => simp [intOf]; omega
        · have q2 : ((s[k].toNat : Int) == 10) = false := by simpa using h10
          have q3 : ¬ s[k] = 10 := fun h => h10 (by rw [h]; rfl)
          have HF := Lib.hid (show lines s = pre ++ cuts b (k + 1) ((L s).drop (k + 1)) by rw [HX.out, HS.out]; simp [cuts, q3])
          clear HX HS h10 q3
          go_wp2
          go_roundw
          case rel => exact ⟨pre, b, k + 1, by omega, rfl, by go_num, .inl ⟨by omega, by omega, HF.out⟩, hpl, hown, hB⟩
          case measure => simp [intOf]; omega

set_option maxHeartbeats 1000000 in
theorem specTextLines_any (s : ByteArray) (w : World) (hs : s.size ≤ 2 ^ 62) :
    Calls Try.prog 25 #[.string s] w (Makes w 9 (linesV s)) := by
  have HT := Lib.hid (specTextOk_any s w (by unfold maxLen; omega))
  cases hok : okB s
  · have HL := Lib.hid (show linesV s = [] by unfold linesV; rw [hok]; rfl)
    rw [hok] at HT
    clear hok
    go_enter Try.func25, Try.ntmps25
    go_wp2_with fail
    refine HT.out.mono ?_
    rintro e w' ⟨rfl, rfl⟩
    go_wp2
    go_ret
    exact ⟨_, rfl, by rw [HL.out]; exact ownsRow_empty w _, (Below.refl _ w).alloc (Nat.le_refl _) _⟩
  · have HL := Lib.hid (show linesV s = (lines s).map (vLine s) by unfold linesV; rw [hok]; rfl)
    have hsz : s.size ≤ 4000 := by unfold okB at hok; simp at hok; exact hok.1
    rw [hok] at HT
    clear hok
    go_enter Try.func25, Try.ntmps25
    go_wp2_with fail
    refine HT.out.mono ?_
    rintro e w' ⟨rfl, rfl⟩
    go_wp2_with fail
    refine (cut_any s _ (by omega)).mono ?_
    rintro e w1 ⟨v, rfl, hv, hb⟩
    go_wp2
    go_ret
    exact ⟨_, rfl, by rw [HL.out]; exact hv, hb⟩

end Go.Proofs.Ytnpcohbbjfjjaaa
