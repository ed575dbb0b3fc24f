/-
  The contracts of impl.sameAlone, and of the model's ExprSame.
-/
import Derived.Test.YtkllhnhinealfaaKidsU
namespace Go.Proofs.Ytkllhnhinealfaa
open Go.RowKit

def aloneB (k n : Int) (s : ByteArray) (l : Nat) (k' n' : Int) (s' : ByteArray) (l' : Nat) : Bool := decide (k = k') && (decide (n = n') && (decide (s = s') && decide (l = l')))
theorem aloneB_iff (x y : Ex) : aloneB x.kind x.n x.s x.kids.length y.kind y.n y.s y.kids.length = true ↔ Alone2 x y := by
  simp only [aloneB, Alone2, Bool.and_eq_true, decide_eq_true_eq]
theorem lst_eq {s t : ByteArray} (h : s = t) : (s.toList == t.toList) = true := by rw [h]; simp
theorem lst_ne {s t : ByteArray} (h : ¬ s = t) : (s.toList == t.toList) = false := by
  cases hb : s.toList == t.toList
  · rfl
  · exfalso
    apply h
    have h1 : s.toList = t.toList := by simpa using hb
    rw [ByteArray.toList_eq, ByteArray.toList_eq] at h1
    exact ByteArray.ext (Array.toList_inj.1 h1)

set_option maxRecDepth 100000 in
set_option maxHeartbeats 2000000 in
theorem sameAlone_any (k n : Int) (s : ByteArray) (A : Option Addr) (l c : Nat) (k' n' : Int) (s' : ByteArray) (A' : Option Addr) (l' c' : Nat) (w : World) :
    Calls Try.prog 16 #[.agg #[.int .i64 k, .int .i64 n, .string s, .slice A l c], .agg #[.int .i64 k', .int .i64 n', .string s', .slice A' l' c']] w fun e w' => e = .returned (.bool (aloneB k n s l k' n' s' l')) ∧ Below w.heap.size w w' := by
  have hb0 : Below w.heap.size w ((w.alloc (.cells #[.int .i64 k, .int .i64 n, .string s, .slice A l c] 31)).alloc (.cells #[.int .i64 k', .int .i64 n', .string s', .slice A' l' c'] 31)) := ((Below.refl _ w).alloc (Nat.le_refl _) _).alloc (by simp) _
  by_cases h1 : k = k'
  · subst h1
    have q1 : (k == k) = true := by simp
    by_cases h2 : n = n'
    · subst h2
      have q2 : (n == n) = true := by simp
      by_cases h3 : s = s'
      · subst h3
        have q3 : (s.toList == s.toList) = true := by simp
        by_cases h4 : l = l'
        · subst h4
          have q4 : ((l : Int) == (l : Int)) = true := by simp
          go_enter Try.func16, Try.ntmps16
          go_wp2_with fail
          go_ret
          exact ⟨ret_bool (by simp [aloneB]), hb0⟩
        · have q4 : ((l : Int) == (l' : Int)) = false := by rw [beq_eq_false_iff_ne]; omega
          have H4 := Lib.hid h4
          clear h4
          go_enter Try.func16, Try.ntmps16
          go_wp2_with fail
          go_ret
          exact ⟨ret_bool (by simp [aloneB, H4.out]), hb0⟩
      · have q3 := lst_ne h3
        have H3 := Lib.hid h3
        clear h3
        go_enter Try.func16, Try.ntmps16
        go_wp2_with fail
        go_ret
        exact ⟨ret_bool (by simp [aloneB, H3.out]), hb0⟩
    · have q2 : (n == n') = false := by rw [beq_eq_false_iff_ne]; exact h2
      have H2 := Lib.hid h2
      clear h2
      go_enter Try.func16, Try.ntmps16
      go_wp2_with fail
      go_ret
      exact ⟨ret_bool (by simp [aloneB, H2.out]), hb0⟩
  · have q1 : (k == k') = false := by rw [beq_eq_false_iff_ne]; exact h1
    have H1 := Lib.hid h1
    clear h1
    go_enter Try.func16, Try.ntmps16
    go_wp2_with fail
    go_ret
    exact ⟨ret_bool (by simp [aloneB, H1.out]), hb0⟩
theorem cell_new1 (w : World) (cs : Array Value) (t : TypeId) (j : Nat) (v : Value) (h : cs[j]? = some v) : (w.alloc (.cells cs t)).cell? ⟨w.heap.size, j, none⟩ = some v := by
  have h0 : (w.alloc (.cells cs t)).heap[w.heap.size]? = some (.cells cs t) := World.alloc_heap_new w _
  simp only [World.cell?, h0]
  exact h
theorem cell_new2a (w : World) (cs ds : Array Value) (t u : TypeId) (j : Nat) (v : Value) (h : cs[j]? = some v) : ((w.alloc (.cells cs t)).alloc (.cells ds u)).cell? ⟨w.heap.size, j, none⟩ = some v :=
  (World.cell?_of_block (a := ⟨w.heap.size, j, none⟩) (Below.heap_alloc _ _ _ (by simp))).trans (cell_new1 w cs t j v h)
theorem cell_new2b (w : World) (cs ds : Array Value) (t u : TypeId) (j : Nat) (v : Value) (h : ds[j]? = some v) : ((w.alloc (.cells cs t)).alloc (.cells ds u)).cell? ⟨w.heap.size + 1, j, none⟩ = some v := by
  have := cell_new1 (w.alloc (.cells cs t)) ds u j v h
  rwa [World.size_alloc] at this
theorem len_ne {xs ys : List Ex} (h : ¬ xs.length = ys.length) : xs ≠ ys := fun e => h (by rw [e])
set_option maxRecDepth 100000 in
set_option maxHeartbeats 4000000 in
theorem specSame_any (e : Ex) : ∀ (e' : Ex) (A A' : Option Addr) (c c' B : Nat) (w : World), KidsAt w B A e.kids → KidsAt w B A' e'.kids → e.kids.length ≤ c → e'.kids.length ≤ c' → B ≤ w.heap.size → e.wt ≤ 2 ^ 40 →
    Calls Try.prog 10 #[.agg #[.int .i64 e.kind, .int .i64 e.n, .string e.s, .slice A e.kids.length c], .agg #[.int .i64 e'.kind, .int .i64 e'.n, .string e'.s, .slice A' e'.kids.length c']] w fun r w' => r = .returned (.bool (sameE e e')) ∧ Below w.heap.size w w' := by
  induction e using Ex.ind with
  | h k n s ks ih =>
    intro e' A A' c c' B w hA hA' hc hc' hB hw
    obtain ⟨k', n', s', ks'⟩ := e'
    simp only [Ex.kind, Ex.n, Ex.s, Ex.kids, Ex.wt] at hA hA' hc hc' hw ⊢
    have hlw := Ex.wts_length ks
    have hl : ks.length ≤ 2 ^ 40 := by omega
    have HA := Lib.hid hA
    have HA' := Lib.hid hA'
    have HI := Lib.hid ih
    have HWT := Lib.hid (show Ex.wts ks ≤ 2 ^ 40 by omega)
    clear hA hA' ih hw hlw
    have hb0 : Below w.heap.size w ((w.alloc (.cells #[.int .i64 k, .int .i64 n, .string s, .slice A ks.length c] 31)).alloc (.cells #[.int .i64 k', .int .i64 n', .string s', .slice A' ks'.length c'] 31)) := ((Below.refl _ w).alloc (Nat.le_refl _) _).alloc (by simp) _
    by_cases h1 : k = k'
    case neg =>
      have q1 : (k != k') = true := by simp [h1]
      have h1N := Lib.hid h1
      clear h1
      go_enter Try.func10, Try.ntmps10
      go_wp2_with fail
      go_ret
      exact ⟨ret_bool (by rw [sameE_ne _ _ (fun e => by injection e with e1 e2 e3 e4; exact h1N.out e1)]), hb0⟩

    subst h1
    have q1 : (k != k) = false := by simp
    by_cases h2 : n = n'
    case neg =>
      have q2 : (n != n') = true := by simp [h2]
      have h2N := Lib.hid h2
      clear h2
      go_enter Try.func10, Try.ntmps10
      go_wp2_with fail
      go_ret
      exact ⟨ret_bool (by rw [sameE_ne _ _ (fun e => by injection e with e1 e2 e3 e4; exact h2N.out e2)]), hb0⟩

    subst h2
    have q2 : (n != n) = false := by simp
    by_cases h3 : s = s'
    case neg =>
      have q3 : (!s.toList == s'.toList) = true := by rw [lst_ne h3]; rfl
      have h3N := Lib.hid h3
      clear h3
      go_enter Try.func10, Try.ntmps10
      go_wp2_with fail
      go_ret
      exact ⟨ret_bool (by rw [sameE_ne _ _ (fun e => by injection e with e1 e2 e3 e4; exact h3N.out e3)]), hb0⟩

    subst h3
    have q3 : (!s.toList == s.toList) = false := by simp
    by_cases h4 : ks.length = ks'.length
    case neg =>
      have q4 : ((ks.length : Int) != (ks'.length : Int)) = true := by rw [bne_iff_ne]; omega
      have h4N := Lib.hid h4
      clear h4
      go_enter Try.func10, Try.ntmps10
      go_wp2_with fail
      go_ret
      exact ⟨ret_bool (by rw [sameE_ne _ _ (fun e => by injection e with e1 e2 e3 e4; exact len_ne h4N.out e4)]), hb0⟩

    have q4 : ((ks.length : Int) != (ks'.length : Int)) = false := by rw [bne_eq_false_iff_eq]; omega
    have HL := Lib.hid h4
    have hl1 : ks.length ≤ ks'.length := by omega
    have hl2 : ks'.length ≤ ks.length := by omega
    clear h4
    obtain ⟨W0, hW0⟩ : ∃ W0, W0 = ((w.alloc (.cells #[.int .i64 k, .int .i64 n, .string s, .slice A ks.length c] 31)).alloc (.cells #[.int .i64 k, .int .i64 n, .string s, .slice A' ks'.length c'] 31)) := ⟨_, rfl⟩
    rw [← hW0] at hb0
    have hs0 : w.heap.size + 1 < W0.heap.size := by rw [hW0]; simp
    have a3 : W0.cell? ⟨w.heap.size, 3, none⟩ = some (.slice A ks.length c) := by rw [hW0]; exact cell_new2a w _ _ _ _ 3 _ rfl
    have b3 : W0.cell? ⟨w.heap.size + 1, 3, none⟩ = some (.slice A' ks'.length c') := by rw [hW0]; exact cell_new2b w _ _ _ _ 3 _ rfl
    go_enter Try.func10, Try.ntmps10
    go_wp2_with fail
    rw [← hW0]
    clear hW0
    go_loopw [5] (fun i wr => ∃ j : Nat, j ≤ ks.length ∧ i = .int .i64 j ∧ ks.take j = ks'.take j ∧ Below W0.heap.size W0 wr) (fun i _ => ks.length - (intOf i).toNat)
    case atStart => exact ⟨0, Nat.zero_le _, rfl, by simp, Below.refl _ _⟩
    case round =>
      obtain ⟨j, hj, rfl, htk, hBw⟩ := hrel
      have HTK := Lib.hid htk
      clear htk
      have hBB := hb0.trans (hBw.mono hb0.size)
      have a3r := (hBw.cell (p := ⟨w.heap.size, 3, none⟩) (by show w.heap.size < _; omega)).trans a3
      have b3r := (hBw.cell (p := ⟨w.heap.size + 1, 3, none⟩) (by show w.heap.size + 1 < _; omega)).trans b3
      clear a3 b3
      by_cases hlt : j < ks.length
      · have hlt' : j < ks'.length := by omega
        obtain ⟨g, off, D, m1, eA, hg, kid⟩ := (HA.out.keep (hBB.mono hB)).at_ hlt
        obtain ⟨g', off', D', m1', eA', hg', kid'⟩ := (HA'.out.keep (hBB.mono hB)).at_ hlt'
        subst eA eA'
        have hkb : ks[j].wt + 1 ≤ Ex.wts ks := Ex.wt_mem (List.getElem_mem _)
        have HC := Lib.hid (fun (V : World) (hV : Below wr.heap.size wr V) => HI.out ks[j] (List.getElem_mem hlt) ks'[j] D D' m1 m1' B V (kid.hk.keep (hV.mono (Nat.le_trans hB hBB.size))) (kid'.hk.keep (hV.mono (Nat.le_trans hB hBB.size))) kid.hc kid'.hc (Nat.le_trans (Nat.le_trans hB hBB.size) hV.size) (by have := HWT.out; omega))
        have HT1 := Lib.hid (List.take_succ_eq_append_getElem hlt)
        have HT2 := Lib.hid (List.take_succ_eq_append_getElem hlt')
        have HG := Lib.hid (show ks = ks' → ks[j] = ks'[j] from fun e => by subst e; rfl)
        generalize ks[j] = x at *
        generalize ks'[j] = y at *
        obtain ⟨xk, xn, xs, xks⟩ := x
        obtain ⟨yk, yn, ys, yks⟩ := y
        obtain ⟨c0, c1, c2, c3, hcc, hkk⟩ := kid
        obtain ⟨b0, b1, b2, b3, hbb, hkk'⟩ := kid'
        simp only [Ex.kind, Ex.n, Ex.s, Ex.kids] at c0 c1 c2 c3 hcc b0 b1 b2 b3 hbb HC
        have hgl : g < wr.heap.size := Nat.lt_of_lt_of_le hg (Nat.le_trans hB hBB.size)
        have hgl' : g' < wr.heap.size := Nat.lt_of_lt_of_le hg' (Nat.le_trans hB hBB.size)
        have hwl : w.heap.size < wr.heap.size := by have := hBw.size; omega
        have hwl' : w.heap.size + 1 < wr.heap.size := by have := hBw.size; omega
        have hx : (j : Int) < (ks.length : Int) := by omega
        have hx' : (j : Int) < (ks'.length : Int) := by omega
        clear hkk hkk' hkb
        obtain ⟨R, hR⟩ : ∃ R, R = sameE (.mk xk xn xs xks) (.mk yk yn ys yks) := ⟨_, rfl⟩
        rw [← hR] at HC
        have HR := Lib.hid hR
        clear hR
        go_wp2_with fail
        go_region_held3 (fun w' => w'.cell? ⟨w.heap.size, 3, none⟩ = some (.slice (some ⟨g, off, none⟩) ks.length c) ∧ w'.cell? ⟨w.heap.size + 1, 3, none⟩ = some (.slice (some ⟨g', off', none⟩) ks'.length c') ∧ w'.cell? ⟨g, off + j * 4, none⟩ = some (.int .i64 xk) ∧ w'.cell? ⟨g, off + j * 4 + 1, none⟩ = some (.int .i64 xn) ∧ w'.cell? ⟨g, off + j * 4 + 2, none⟩ = some (.string xs) ∧ w'.cell? ⟨g, off + j * 4 + 3, none⟩ = some (.slice D xks.length m1) ∧ w'.cell? ⟨g', off' + j * 4, none⟩ = some (.int .i64 yk) ∧ w'.cell? ⟨g', off' + j * 4 + 1, none⟩ = some (.int .i64 yn) ∧ w'.cell? ⟨g', off' + j * 4 + 2, none⟩ = some (.string ys) ∧ w'.cell? ⟨g', off' + j * 4 + 3, none⟩ = some (.slice D' yks.length m1') ∧ Below wr.heap.size wr w')
          (first | exact ⟨a3r, b3r, c0, c1, c2, c3, b0, b1, b2, b3, (Below.refl _ wr).drew⟩ | exact ⟨(hb2.cell (p := ⟨w.heap.size, 3, none⟩) hwl).trans a3r, (hb2.cell (p := ⟨w.heap.size + 1, 3, none⟩) hwl').trans b3r, (hb2.cell (p := ⟨g, off + j * 4, none⟩) hgl).trans c0, (hb2.cell (p := ⟨g, off + j * 4 + 1, none⟩) hgl).trans c1, (hb2.cell (p := ⟨g, off + j * 4 + 2, none⟩) hgl).trans c2, (hb2.cell (p := ⟨g, off + j * 4 + 3, none⟩) hgl).trans c3, (hb2.cell (p := ⟨g', off' + j * 4, none⟩) hgl').trans b0, (hb2.cell (p := ⟨g', off' + j * 4 + 1, none⟩) hgl').trans b1, (hb2.cell (p := ⟨g', off' + j * 4 + 2, none⟩) hgl').trans b2, (hb2.cell (p := ⟨g', off' + j * 4 + 3, none⟩) hgl').trans b3, hb2⟩)
          (first | (go_at_call 10; refine (HC.out _ (Below.refl _ wr).drew).mono ?_; rintro e w2 ⟨rfl, hb2'⟩; have hb2 : Below wr.heap.size wr w2 := (Below.refl _ wr).drew.trans hb2'))
        rename_i hh
        cases R with
        | true =>
          go_wp2_with fail
          go_roundw
          case rel => exact ⟨j + 1, by omega, by go_num, by rw [HT1.out, HT2.out, HTK.out, (sameE_iff _ _).1 HR.out.symm], hBw.trans (hb2.mono hBw.size)⟩
          case measure => simp [intOf]; omega
        | false =>
          go_wp2_with fail
          go_ret
          exact ⟨ret_bool (by rw [sameE_ne _ _ (fun e => by injection e with e1 e2 e3 e4; have h5 := HG.out e4; rw [← sameE_iff, ← HR.out] at h5; cases h5)]), hBB.trans (hb2.mono hBB.size)⟩
      · go_wp2_with fail
        go_ret
        exact ⟨ret_bool (by rw [sameE_eq _ _ (by have h5 := HTK.out; rw [List.take_of_length_le (by omega), List.take_of_length_le (by omega)] at h5; rw [h5])]), hBB⟩
end Go.Proofs.Ytkllhnhinealfaa
