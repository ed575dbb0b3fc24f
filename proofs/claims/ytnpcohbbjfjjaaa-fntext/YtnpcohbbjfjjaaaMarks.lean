/-
  The contracts of the helpers of the exact laws over texts: laws.markText, laws.eqStringS, laws.markStringS, laws.heldStringS.
-/
import Derived.Test.YtnpcohbbjfjjaaaProg
import Derived.WalkKit
import Derived.WalkSpells
import Derived.WalkLawsBesides
import Derived.Deep.QuietTactic
import Derived.BigQuiet
import Derived.Deep.RegionHeld3
import Derived.Deep.DrawnRows
import Derived.Deep.Onto
import Derived.Deep.AppendLies
import Derived.Lib.Hide
namespace Go.Proofs.Ytnpcohbbjfjjaaa
open Go.RowKit

def byteS (n : Int) : ByteArray := ByteArray.empty.push (UInt8.ofNat n.toNat)
def digB (j : Nat) : ByteArray := byteS (48 + (j : Int) % 10)
def markLoop : Nat → Nat → ByteArray → ByteArray
  | 0, _, out => out
  | f + 1, j, out => if j = 0 then out else markLoop f (j / 10) (digB j ++ out)
/-- The mark of a number. -/
def markS (k : Nat) : ByteArray := ⟨#[109]⟩ ++ markLoop k k ByteArray.empty

theorem byteS_size (n : Int) : (byteS n).size = 1 := rfl

/-- A slice of one byte, just made, turned into a text. -/
theorem conv_one (n : Int) (w : World) : (convert 22 9 (.slice (some ⟨w.heap.size, 0, none⟩) 1 1)).run Try.prog (w.alloc (.cells #[.int .u8 n] 5)) = .ok (.string (byteS n)) (w.alloc (.cells #[.int .u8 n] 5)) := by
  rw [run_convert_bytes_string _ _ _ _ _ _ _ Try.underlying22 Try.underlying5 Try.underlying9]
  rw [run_bytesToString _ _ _ _ [n] (by simp [loadCells, go_sem])]
  rfl

set_option maxHeartbeats 1000000 in
theorem markText_any (k : Nat) (w : World) (hk : 0 < k) (hk2 : k ≤ 2 ^ 40) :
    Calls Try.prog 54 #[.int .i64 k] w fun e w' => e = .returned (.string (markS k)) ∧ Below w.heap.size w w' := by
  have q0 : ¬ ((k : Int) ≤ 0) := by omega
  have hcv := conv_one
  have hbs := byteS_size
  go_enter Try.func54, Try.ntmps54
  go_wp2
  go_loopw [0, 3] (fun n o wr => ∃ (f j : Nat) (out : ByteArray), j ≤ f ∧ j ≤ k ∧ out.size + j ≤ k ∧ n = .int .i64 j ∧ o = .string out ∧ markLoop k k ByteArray.empty = markLoop f j out ∧ Below w.heap.size w wr)
    (fun n _ _ => (intOf n).toNat)
  case atStart => exact ⟨k, k, ByteArray.empty, Nat.le_refl _, Nat.le_refl _, by simp, rfl, rfl, rfl, Below.refl _ _⟩
  case round =>
    obtain ⟨f, j, out, hjf, hjk, hsz, rfl, rfl, hm, hB⟩ := hrel
    have HM := Lib.hid hm; clear hm
    by_cases hj : j = 0
    · subst hj
      have HF := Lib.hid (show markLoop k k ByteArray.empty = out by rw [HM.out]; cases f <;> simp [markLoop])
      clear HM
      go_wp2
      go_ret
      exact ⟨congrArg (fun x => Ending.returned (.string x)) (by unfold markS; rw [HF.out]), hB⟩
    · have hj0 : 0 < (j : Int) := by omega
      obtain ⟨f', rfl⟩ : ∃ f', f = f' + 1 := ⟨f - 1, by omega⟩
      have HF := Lib.hid (show markLoop k k ByteArray.empty = markLoop f' (j / 10) (digB j ++ out) by rw [HM.out]; simp [markLoop, hj])
      have hds : (digB j ++ out).size = out.size + 1 := by rw [ByteArray.size_append]; unfold digB; rw [byteS_size]; omega
      have HD := Lib.hid hds
      clear HM hds
      go_wp2
      go_roundw
      case rel => exact ⟨f', j / 10, digB j ++ out, by omega, by omega, by rw [HD.out]; omega, by go_num, rfl, HF.out, hB.alloc hB.size _⟩
      case measure => simp [intOf]; omega

theorem below_draws {w : World} (n : Nat) : Below w.heap.size w (w.drewN n) := ⟨rfl, rfl, rfl, Nat.le_refl _, fun _ _ => rfl⟩

theorem own_below {w w' : World} {base : Nat} {e : TypeId} {size : Nat} {v : Value} {n : Nat} {xs : List Value} (h : w.ownsRow base e size v n xs) (hb : Below w.heap.size w w') : w'.ownsRow base e size v n xs :=
  h.kept (row := none) ⟨hb.os, hb.tape, hb.output, hb.size, fun i hi _ => hb.block i hi⟩ (by cases hv : v.ownBlock <;> simp)

/-- The slice at this address holds these values. -/
def SlIs (w : World) (A : Option Addr) (xs : List Value) : Prop :=
  xs = [] ∨ ∃ g off, A = some ⟨g, off, none⟩ ∧ g < w.heap.size ∧ ∀ j u, xs[j]? = some u → w.cell? ⟨g, off + j, none⟩ = some u
theorem SlIs.below {w w' : World} {A : Option Addr} {xs : List Value} (h : SlIs w A xs) (hb : Below w.heap.size w w') : SlIs w' A xs := by
  rcases h with h | ⟨g, off, e, hg, hc⟩
  · exact .inl h
  · exact .inr ⟨g, off, e, Nat.lt_of_lt_of_le hg hb.size, fun j u hu => (hb.cell (p := ⟨g, off + j, none⟩) hg).trans (hc j u hu)⟩
theorem SlIs.at_ {w : World} {A : Option Addr} {xs : List Value} (h : SlIs w A xs) {k : Nat} (hk : k < xs.length) : ∃ g off, A = some ⟨g, off, none⟩ ∧ g < w.heap.size ∧ w.cell? ⟨g, off + k, none⟩ = some xs[k] := by
  rcases h with h | ⟨g, off, e, hg, hc⟩
  · subst h; simp at hk
  · exact ⟨g, off, e, hg, hc k _ (List.getElem?_eq_getElem hk)⟩
theorem SlIs.own {w : World} {base : Nat} {e : TypeId} {A : Option Addr} {n c : Nat} {xs : List Value} (h : w.ownsRow base e 1 (.slice A n c) n xs) : SlIs w A xs := by
  rcases h.2 with ⟨hv, hn⟩ | ⟨g, cap, cur, hv, hb, hg, hnc, hcm, hcs, htake⟩
  · exact .inl (List.eq_nil_of_length_eq_zero (by rw [h.1, hn]))
  · injection hv with h1 h2 h3
    subst h1
    refine .inr ⟨g, 0, rfl, (Array.getElem?_eq_some_iff.1 hg).1, fun j u hu => ?_⟩
    have := h.cells (g := g) rfl j u hu
    rwa [show ((⟨g, 0, none⟩ : Addr).add j) = ⟨g, 0 + j, none⟩ from by unfold Addr.add; by_cases hj : j = 0 <;> simp [hj]] at this

def strV (s : ByteArray) : Value := .string s

set_option maxHeartbeats 1000000 in
/-- Two slices that hold the same texts are told to be the same. -/
theorem eqStringS_same (A B : Option Addr) (c d : Nat) (ss : List ByteArray) (w : World) (hl : ss.length ≤ 2 ^ 40) (hA : SlIs w A (ss.map strV)) (hB : SlIs w B (ss.map strV)) :
    Calls Try.prog 35 #[.slice A ss.length c, .slice B ss.length d] w fun e w' => e = .returned (.bool true) ∧ Below w.heap.size w w' := by
  have q0 : ((ss.length : Int) != (ss.length : Int)) = false := by simp
  go_enter Try.func35, Try.ntmps35
  go_wp2
  go_loopw [5] (fun i wr => ∃ k : Nat, k ≤ ss.length ∧ i = .int .i64 k ∧ ∃ n, wr = w.drewN n)
    (fun i _ => ss.length - (intOf i).toNat)
  case atStart => exact ⟨0, Nat.zero_le _, rfl, 0, rfl⟩
  case round =>
    obtain ⟨k, hk, rfl, n, rfl⟩ := hrel
    by_cases hlt : k < ss.length
    · obtain ⟨g, off, rfl, hg, hc⟩ := hA.at_ (k := k) (by simpa using hlt)
      obtain ⟨g', off', rfl, hg', hc'⟩ := hB.at_ (k := k) (by simpa using hlt)
      simp only [List.getElem_map, strV] at hc hc'
      generalize ss[k] = t at *
      have hx : (k : Int) < (ss.length : Int) := by omega
      go_wp2
      go_quiet (fail)
      go_wp2
      go_roundw
      case rel => exact ⟨k + 1, by omega, by go_num, n + nq, rfl⟩
      case measure => simp [intOf]; omega
    · go_wp2
      go_ret
      exact ⟨rfl, below_draws n⟩

def marksV (k n : Nat) : List Value := (List.range n).map (fun j => strV (markS (k + j)))
theorem marksV_length (k n : Nat) : (marksV k n).length = n := by simp [marksV]
theorem marksV_get (k n j : Nat) (h : j < n) : (marksV k n)[j]'(by rw [marksV_length]; exact h) = .string (markS (k + j)) := by simp [marksV, strV]
theorem marksV_succ (k n : Nat) : marksV k (n + 1) = marksV k n ++ [.string (markS (k + n))] := by simp [marksV, List.range_succ, strV]

set_option maxHeartbeats 1000000 in
/-- A slice that holds the marks is told to hold them. -/
theorem heldStringS_ok (A : Option Addr) (c k n : Nat) (w : World) (h0 : 0 < k) (hl : k + n ≤ 2 ^ 40) (hA : SlIs w A (marksV k n)) :
    Calls Try.prog 37 #[.slice A n c, .int .i64 (k : Int)] w fun e w' => e = .returned (.int .i64 ((k + n : Nat) : Int)) ∧ Below w.heap.size w w' := by
  go_enter Try.func37, Try.ntmps37
  go_wp2
  go_loopw [1, 5] (fun d i wr => ∃ j : Nat, j ≤ n ∧ i = .int .i64 j ∧ d = .int .i64 ((k + j : Nat) : Int) ∧ Below w.heap.size w wr)
    (fun _ i _ => n - (intOf i).toNat)
  case atStart => exact ⟨0, Nat.zero_le _, rfl, by simp, Below.refl _ _⟩
  case round =>
    obtain ⟨j, hj, rfl, rfl, hnx⟩ := hrel
    by_cases hlt : j < n
    · obtain ⟨g, off, rfl, hg, hc⟩ := hA.at_ (k := j) (by rw [marksV_length]; exact hlt)
      rw [marksV_get k n j hlt] at hc
      have hcr := (hnx.cell (p := ⟨g, off + j, none⟩) hg).trans hc
      clear hc
      have hx : (j : Int) < (n : Int) := by omega
      have hgr : g < wr.heap.size := Nat.lt_of_lt_of_le hg hnx.size
      have HM := Lib.hid (fun W => markText_any (k + j) W (by omega) (by omega))
      generalize markS (k + j) = t at *
      go_wp2
      go_region_held3 (fun w' => w'.cell? ⟨g, off + j, none⟩ = some (.string t) ∧ Below wr.heap.size wr w')
        (first | exact ⟨hcr, (Below.refl _ wr).drew⟩ | exact ⟨(hb.cell (p := ⟨g, off + j, none⟩) hgr).trans (by exact hcr), (Below.refl _ wr).drew.trans hb⟩)
        (first | (go_at_call 54; refine (HM.out _).mono ?_; rintro e w' ⟨rfl, hb⟩))
      rename_i hh
      go_wp2
      go_roundw
      case rel => exact ⟨j + 1, by omega, by go_num, by go_num, hnx.trans (hh.2.mono hnx.size)⟩
      case measure => simp [intOf]; omega
    · obtain rfl : n = j := by omega
      go_wp2
      go_ret
      exact ⟨rfl, hnx⟩

set_option maxHeartbeats 1000000 in
/-- The marks are put into a slice of one's own. -/
theorem markStringS_any (base : Nat) (A : Option Addr) (c k n : Nat) (xs : List Value) (w : World) (h0 : 0 < k) (hl : k + n ≤ 2 ^ 40) (hown : w.ownsRow base 9 1 (.slice A n c) n xs) (hbase : base ≤ w.heap.size) (hstr : ∀ u ∈ xs, ∃ s, u = Value.string s) :
    Calls Try.prog 36 #[.slice A n c, .int .i64 (k : Int)] w fun e w' => e = .returned (.int .i64 ((k + n : Nat) : Int)) ∧ w'.ownsRow base 9 1 (.slice A n c) n (marksV k n) ∧ Below base w w' := by
  go_enter Try.func36, Try.ntmps36
  go_wp2
  go_loopw [1, 5] (fun d i wr => ∃ j : Nat, j ≤ n ∧ i = .int .i64 j ∧ d = .int .i64 ((k + j : Nat) : Int) ∧ wr.ownsRow base 9 1 (.slice A n c) n (marksV k j ++ xs.drop j) ∧ Below base w wr)
    (fun _ i _ => n - (intOf i).toNat)
  case atStart => exact ⟨0, Nat.zero_le _, rfl, by simp, by simpa [marksV] using hown, Below.refl _ _⟩
  case round =>
    obtain ⟨j, hj, rfl, rfl, hrow, hnx⟩ := hrel
    have hxl : xs.length = n := by have := hown.1; omega
    by_cases hlt : j < n
    · obtain ⟨g, cap, hv, hbg, hgl⟩ := hrow.form (by omega)
      have hA : A = some ⟨g, 0, none⟩ := by injection hv
      subst hA
      have hcell : ∃ s, wr.cell? ⟨g, j, none⟩ = some (Value.string s) := by
        rw [hrow.cellAt j (by omega), List.getElem?_append_right (by rw [marksV_length]; exact Nat.le_refl _), marksV_length, Nat.sub_self, List.getElem?_drop, Nat.add_zero, List.getElem?_eq_getElem (by omega)]
        obtain ⟨s, hs⟩ := hstr xs[j] (List.getElem_mem _)
        exact ⟨s, by rw [hs]⟩
      obtain ⟨s0, hc0⟩ := hcell
      have hf0 := hrow.frozenAt j
      have hx : (j : Int) < (n : Int) := by omega
      have HR := Lib.hid hrow
      have HX := Lib.hid hxl
      have HG := Lib.hid hv
      clear hrow hxl hv hown
      have HM := Lib.hid (fun W => markText_any (k + j) W (by omega) (by omega))
      have HS := Lib.hid (marksV_succ k j)
      generalize markS (k + j) = t at *
      go_wp2_with fail
      refine (HM.out _).mono ?_
      rintro e w1 ⟨rfl, hb1⟩
      have hc1 := (hb1.cell (p := ⟨g, j, none⟩) hgl).trans hc0
      have hf1 := (hb1.frozen (p := ⟨g, j, none⟩) hgl).trans hf0
      clear hc0 hf0
      go_wp2
      go_roundw
      case rel =>
        refine ⟨j + 1, by omega, by go_num, by go_num, ?_, ?_⟩
        · have h2 := ((own_below HR.out hb1).stored j (.string t)).1
          rw [show (marksV k j ++ xs.drop j).set j (.string t) = marksV k (j + 1) ++ xs.drop (j + 1) from ?_] at h2
          · exact h2
          · rw [List.set_append_right _ _ (by rw [marksV_length]; exact Nat.le_refl _), marksV_length, Nat.sub_self, HS.out, List.drop_eq_getElem_cons (by rw [HX.out]; exact hlt), List.set_cons_zero, List.append_assoc]
            rfl
        · exact (hnx.trans (hb1.mono (Nat.le_trans hbase hnx.size))).setCell (p := ⟨g, j, none⟩) hbg _
      case measure => simp [intOf]; omega
    · obtain rfl : n = j := by omega
      have HR := Lib.hid hrow
      clear hrow hown
      have HX := Lib.hid hxl
      clear hxl
      go_wp2
      go_ret
      exact ⟨rfl, by have := HR.out; rw [List.drop_eq_nil_of_le (by rw [HX.out]; exact Nat.le_refl _), List.append_nil] at this; exact this, hnx⟩

end Go.Proofs.Ytnpcohbbjfjjaaa
