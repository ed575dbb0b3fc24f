/-
  The contract of the program's deedText.
-/
import Derived.Test.YtfknelkbdoiokaaGreatDoorDeedWrite
namespace Go.Proofs.YtfknelkbdoiokaaGreatDoor
open Go.RowKit

theorem mem_wrap {b : Bool} {ws : List ByteArray} {s : ByteArray} (h : s ∈ wrapW b ws) (hw : ∀ t ∈ ws, t.size ≤ 8) : s.size ≤ 8 := by
  unfold wrapW at h
  split at h
  · simp only [List.mem_append, List.mem_cons, List.not_mem_nil, or_false] at h
    rcases h with (rfl | h) | rfl
    · decide
    · exact hw s h
    · decide
  · exact hw s h
theorem words_small (p : Pt) : p.fine = true → ∀ s ∈ p.words, s.size ≤ 8 := by
  induction p with
  | num n =>
    intro h s hs
    simp only [Pt.fine, Bool.and_eq_true, decide_eq_true_eq] at h
    obtain rfl : s = decS n := by simpa [Pt.words] using hs
    have := decS_size7 h.2
    omega
  | name t =>
    intro h s hs
    obtain rfl : s = t := by simpa [Pt.words] using hs
    exact name_size8 h
  | two t a b ia ib =>
    intro h s hs
    simp only [Pt.fine, Bool.and_eq_true, decide_eq_true_eq] at h
    simp only [Pt.words, List.mem_append, List.mem_cons, List.not_mem_nil, or_false] at hs
    rcases hs with (hs | rfl) | hs
    · exact mem_wrap hs (ia h.2.1)
    · have := hold_size1 h.1; omega
    · exact mem_wrap hs (ib h.2.2)
  | «as» t a ia =>
    intro h s hs
    simp only [Pt.fine, Bool.and_eq_true] at h
    simp only [Pt.words, List.mem_append, List.mem_cons, List.not_mem_nil, or_false] at hs
    rcases hs with hs | rfl | rfl
    · exact mem_wrap hs (ia h.2)
    · decide
    · have := type_size4 h.1; omega
theorem De.words_small {d : De} (h : d.fine = true) : ∀ s ∈ d.words, s.size ≤ 8 := by
  cases d with
  | noD => intro s hs; simp [De.words] at hs
  | letD n t p =>
    simp only [De.fine, Bool.and_eq_true] at h
    intro s hs
    simp only [De.words, List.mem_append, List.mem_cons, List.not_mem_nil, or_false] at hs
    rcases hs with (rfl | rfl | rfl | rfl | rfl) | hs
    · decide
    · exact name_size8 h.1
    · decide
    · have := type_size4 h.2.1; omega
    · decide
    · exact Go.Proofs.YtfknelkbdoiokaaGreatDoor.words_small p (ok_fine h.2.2) s hs
  | sayD p =>
    intro s hs
    simp only [De.words, List.mem_cons] at hs
    rcases hs with rfl | hs
    · decide
    · exact Go.Proofs.YtfknelkbdoiokaaGreatDoor.words_small p (ok_fine h) s hs
  | whenD p q =>
    simp only [De.fine, Bool.and_eq_true] at h
    intro s hs
    simp only [De.words, List.cons_append, List.mem_append, List.mem_cons] at hs
    rcases hs with rfl | hs | rfl | hs
    · decide
    · exact Go.Proofs.YtfknelkbdoiokaaGreatDoor.words_small p (ok_fine h.1) s hs
    · decide
    · exact Go.Proofs.YtfknelkbdoiokaaGreatDoor.words_small q (ok_fine h.2) s hs
theorem tot_small (ws : List ByteArray) : (∀ s ∈ ws, s.size ≤ 8) → tot ws ≤ 9 * ws.length := by
  intro h
  have aux : ∀ k, k ≤ ws.length → tot (ws.take k) ≤ 9 * k := by
    intro k
    induction k with
    | zero => intro _; simp [tot]
    | succ k ih =>
      intro hk
      have h1 := ih (by omega)
      have h2 := h ws[k] (List.getElem_mem (by omega))
      rw [tot_take_succ ws k (by omega)]
      omega
  have := aux ws.length (Nat.le_refl _)
  rwa [List.take_length] at this

set_option maxRecDepth 100000 in
set_option maxHeartbeats 4000000 in
/-- Whatever writes its words. -/
theorem wordedText_gen (t1 : TypeId) (u1 : Value) (f1 : Nat) (ws : List ByteArray) (hm : Meth "loop.example/interlinear/impl.write" t1 u1 f1) (hwl : ws.length ≤ 200) (hsm : ∀ s ∈ ws, s.size ≤ 8) (w : World)
    (hW : Calls Tryz.prog f1 #[u1, sendW 118 w.heap.size] (w.alloc (.cells #[.slice none 0 0] 26)) (PutsG (fun l s => l ++ [s]) w.heap.size w.heap.size [] ws (w.alloc (.cells #[.slice none 0 0] 26)))) :
    Calls Tryz.prog 68 #[.iface t1 u1] w fun r w' => r = .returned (.string (joinK ws ws.length)) ∧ Below w.heap.size w w' := by
  obtain ⟨m1, n1, k1⟩ := hm
  have hwt : tot ws ≤ 2 ^ 40 := by have := tot_small _ hsm; omega
  have HWR := Lib.hid hW
  unfold sendW at HWR
  clear hsm hW
  go_enter Tryz.func68, Tryz.ntmps68
  go_wp2_with fail
  refine HWR.out.mono ?_
  rintro r w3 ⟨⟨v3, rfl⟩, ⟨_, v, hv, hrow⟩, hb3, _⟩
  rw [foldl_more, List.nil_append] at hrow
  have x0 := hv.cell
  obtain ⟨A3, c3, hvs, hc3⟩ := own_slice hrow
  subst hvs
  have HT := Lib.hid (tokText_any A3 c3 ws w3 hwt hc3 (SlIs.own hrow))
  clear hrow hv
  go_wp2_with fail
  refine HT.out.mono ?_
  rintro r w4 ⟨rfl, hb4⟩
  go_wp2_with fail
  go_ret
  exact ⟨rfl, ((Below.refl _ w).alloc (Nat.le_refl _) _).trans (hb3.trans (hb4.mono (Nat.le_trans (by simp) hb3.size)))⟩
theorem deedText_any (d : De) (hf : d.fine = true) (w : World) (hL : LaidW w) :
    Calls Tryz.prog 68 #[deV d] w fun r w' => r = .returned (.string d.text) ∧ Below w.heap.size w w' :=
  wordedText_gen (deT d) (deU d) (fDWrite d) d.words (meth_dwrite d) (De.words_length hf) (De.words_small hf) w (dwrite_gen hL (sends_deed w w.heap.size) d hf _ [] ((Below.refl _ w).alloc (Nat.le_refl _) _) ⟨Nat.le_refl _, _, Boxed.new w _ _, ⟨rfl, .inl ⟨rfl, rfl⟩⟩⟩ (by simp))
end Go.Proofs.YtfknelkbdoiokaaGreatDoor
